/- Texts merged: AcEQ, AcFQ, AcGQ, AcHQ, AcIQ, App0Q, FxQ, EvRQ, WaitJQ, WaitKQ, WaitLQ, EvCQ, FabQQ, AcJQ. -/
import Derived.Test.YtjbcfjfnobklkaaGreatZb9
import Derived.Test.YtjbcfjfnobklkaaGreatZb8
import Derived.Test.YtjbcfjfnobklkaaGreatZb4
import Derived.Test.YtjbcfjfnobklkaaGreatZb6
import Derived.Test.YtjbcfjfnobklkaaGreatZb5
import Derived.Laws.OwnMore
import Derived.Test.YtjbcfjfnobklkaaGreatZb7
/- The program's steps: what is known at the head of their loop. -/
namespace Go.Proofs.YtjbcfjfnobklkaaGreat
set_option linter.unusedVariables false
set_option linter.unusedSimpArgs false
open Go.RowKit
def pt (k : Nat) : Value := .pointer (some ⟨k, 0, some 0⟩)
/-- A state whose threads are a block k of the call's own. -/
def stO (s : St) (k N : Nat) : List Value := [.int .i64 s.cf.lg, .int .i64 s.cf.th, .int .i64 s.cf.po, .int .i64 s.cf.wt, .int .i64 s.cf.sp, .int .i64 s.cf.yi, .bool s.cf.si, .int .i64 s.hd, .int .i64 s.tl, .int .i64 s.md, rowS s.sl, rowI s.sn, rowI s.rc, .int .i64 s.fe, rowI s.fl, .int .i64 s.ee, rowI s.el, .int .i64 s.nw, .slice (some ⟨k, 0, some 0⟩) N 0, rowE s.lg]
def zSt : Value := .agg #[.int .i64 0, .int .i64 0, .int .i64 0, .int .i64 0, .int .i64 0, .int .i64 0, vD false, .int .i64 0, .int .i64 0, .int .i64 0, .slice none 0 0, .slice none 0 0, .slice none 0 0, .int .i64 0, .slice none 0 0, .int .i64 0, .slice none 0 0, .int .i64 0, .slice none 0 0, .slice none 0 0]
def bT (l : List Th) (N : Nat) : Option Blk := some ⟨true, true, 11, N, l.map thT⟩
def bX (s : St) (i : Int) (N : Nat) : Option Blk := some ⟨true, false, 21, 1, [.agg (stO s 1 N ++ [Value.int .i64 i]).toArray]⟩
def bZ : Option Blk := some ⟨true, false, 20, 1, [zSt]⟩
/-- At the head of the loop: many m, often o. -/
def hdS (s : St) (i m o : Int) (N : Nat) : Sg := ⟨mkT 33 [(2, .int .i64 m), (6, pt 2), (8, pt 0), (9, .int .i64 o)], [bX s i N, bT s.th N, bZ]⟩
/-- One more round: thread n, at step c, sends. -/
structure Rn (s : St) (n : Nat) (t : Th) (c m o : Int) : Prop where
  lt : decide (o < min m 1000) = true
  ck : stB s = true
  ok : s.ok
  hn : n < s.th.length
  ht : gth s.th n = pcT t c
  rs : thRuns t.st = 0
  sd : opSide t.ki = 1
  fit : s.fit
  o1 : In64 (o + 1)
section
variable {s : St} {n : Nat} {t : Th} {c m o : Int}
theorem Rn.ge (_h : Rn s n t c m o) : decide ((n : Int) < 0) = false := by simp
theorem Rn.le (h : Rn s n t c m o) : decide ((s.th.length : Int) ≤ n) = false := by have := h.hn; simp; omega
theorem Rn.el (h : Rn s n t c m o) : ElP (s.th.map thT) (0 + (n : Int).toNat) (thT (pcT t c)) := h.ht ▸ elT h.hn
theorem Rn.ru (h : Rn s n t c m o) : AC Tryz.prog 84 [thT (pcT t c)] (.int .i64 0) := ac_pruns (t := pcT t c) h.rs
theorem Rn.si (h : Rn s n t c m o) : AC Tryz.prog 85 [.int .i64 (pcT t c).ki] (.int .i64 1) := by have := ac_pside (pcT t c).ki; exact h.sd ▸ this
theorem Rn.id (h : Rn s n t c m o) : 0 ≤ (n : Int) ∧ (n : Int).toNat < s.th.length := idT h.hn
theorem Rn.ln (_h : Rn s n t c m o) : LenP s.th.length s.th.length (s.th.map thT) := len_map s.th
end
section
variable {s : St} {n : Nat} {t : Th} {m o : Int} {x : Exit} {S : Sg}
theorem ac_pprep' {ep v : Int} {l : List Int} (h : prE ep l = v) : AC Tryz.prog 158 [evT ep l] (.int .i64 v) := h ▸ ac_pprep ep l
set_option maxRecDepth 100000 in
theorem lp_prep (h : Rn s n t 5 m o) (he : prE s.fe s.fl = s.fe) (hL : LoopP Tryz.prog (loopOf Tryz.prog 58 0) (hdS (s.setTh n (seenT t s.fe 7)) n m (o + 1) s.th.length) x S) : LoopP Tryz.prog (loopOf Tryz.prog 58 0) (hdS s n m o s.th.length) x S :=
  loop_more mixed (fuel := 9) (n := 9) (im := [0, 1, 2]) (keep := [2, 6, 8, 9]) (ext := [21, 84, 85, 158]) (orc := [.bool true, vD true, .bool false, .bool false, thT (pcT t 5), .int .i64 0, .nilFunc, thT (pcT t 5), .int .i64 1, .nilFunc, thT (pcT t 5), .int .i64 s.fe, thT (pcT t 5), vRow s.th.length ((s.th.set n (seenT t s.fe 5)).map thT), thT (seenT t s.fe 5), vRow s.th.length ((s.th.set n (seenT t s.fe 7)).map thT)])
    (an h.lt <| an h.ln <| an (ac_pcheck h.ck h.ok) <| an h.ge <| an h.le <| an h.id <| an h.el <| an h.ru <| an h.id <| an h.el <| an h.si <| an h.id <| an h.el <| an h.id <| an (ac_pprep' he) <| an h.el <| an (setT s.th n (seenT t s.fe 5)) <| an h.id <| an (el2 h.hn (seenT t s.fe 5)) <| an (set2 s.th n (seenT t s.fe 5) (seenT t s.fe 7)) <| an h.o1 trivial) (by kernel_rfl) hL
end
end Go.Proofs.YtjbcfjfnobklkaaGreat

/- The program's steps, round by round: what each does, told by plain states. -/
namespace Go.Proofs.YtjbcfjfnobklkaaGreat
set_option linter.unusedVariables false
set_option linter.unusedSimpArgs false
open Go.RowKit

def tryT (t : Th) : Th := ⟨t.st, t.ki, t.va, t.un, t.pc, t.re, t.se, min (t.tr + 1) 1099511627776, t.la, t.rs, t.go⟩
theorem runs_not {t : Th} (h : thRuns t.st = 0) : t.st ≠ 0 ∧ t.st ≠ 2 := by
  unfold thRuns at h
  split at h
  · cases h
  · split at h
    · cases h
    · next h0 h2 => exact ⟨h0, h2⟩
theorem park_of {t : Th} {c : Int} (h : thRuns t.st = 0) : thPark (pcT t c) 2 0 (parkT t 2) := .inr (.inr ⟨(runs_not h).1, (runs_not h).2, rfl, rfl⟩)
theorem done_of {t : Th} {c : Int} (h : thRuns t.st = 0) : thDone (pcT t c) 0 (doneT t) := .inr (.inr ⟨(runs_not h).1, (runs_not h).2, rfl, rfl⟩)
theorem ac_pnext' {c : Cf} {n v : Int} (h : wtnI c.lg c.th c.po c.wt c.sp c.yi (max n 0) = v) : AC Tryz.prog 203 [cfT c, .int .i64 n] (.int .i64 v) := h ▸ ac_pnext c n
theorem el3 {n : Nat} {l : List Th} (h : n < l.length) (t : Th) : ElP ((l.set n t).map thT) (0 + (n : Int).toNat) (thT t) := el2 h t
theorem tell_c {s : St} {n : Nat} {t : Th} {c r : Int} (hA : hasB s n = true) (ht : gth s.th n = pcT t c) (hk : (t.ki != 9) = true) (ho : s.ok) (hf : s.fit) :
    AO Tryz.prog 200 [stT s, .int .i64 n, .int .i64 t.ki, .int .i64 r, .int .i64 0] (stL ((s.setTh n (rgT (pcT t c) r 0)).addLg (tlE s n t.ki r 0))) 18 11 := by
  have := ao_tell (k := t.ki) (r := r) (g := 0) hA hk ho hf
  rw [ht] at this
  exact this
section
variable {s : St} {n : Nat} {t : Th} {c m o : Int}
theorem Rn.has (h : Rn s n t c m o) : hasB s n = true := has_iff.2 ⟨h.ck, by omega, by have := h.hn; omega⟩
theorem Rn.nk (h : Rn s n t c m o) : (t.ki != 9) = true := by
  have := h.sd
  by_cases e : t.ki = 9
  · rw [e] at this; exact absurd this (by decide)
  · simp [e]
theorem Rn.tell {r : Int} (h : Rn s n t c m o) : AO Tryz.prog 200 [stT s, .int .i64 n, .int .i64 t.ki, .int .i64 r, .int .i64 0] (stL ((s.setTh n (rgT (pcT t c) r 0)).addLg (tlE s n t.ki r 0))) 18 11 := tell_c h.has h.ht h.nk h.ok h.fit
theorem Rn.ids (h : Rn s n t c m o) (u : Th) : 0 ≤ (n : Int) ∧ (n : Int).toNat < (s.th.set n u).length := idT (by rw [List.length_set]; exact h.hn)
theorem Rn.idw (h : Rn s n t c m o) (q : Nat) (u : Th) : 0 ≤ (n : Int) ∧ (n : Int).toNat < (s.th.set q u).length := idT (by rw [List.length_set]; exact h.hn)
theorem Rn.len (h : Rn s n t c m o) : In64 (s.sl.length : Int) := by have := h.fit.sl; constructor <;> omega
theorem Rn.sees {r : Int} (h : Rn s n t c m o) (hs : seesS s = r) : AC Tryz.prog 201 [wdT s.hd s.tl s.md, .int .i64 s.sl.length] (.tuple #[.int .i64 r, .int .i64 (tkR s.hd s.tl s.md s.sl.length)]) := hs ▸ ac_psees s.hd s.tl s.md s.sl.length h.ok.hd h.ok.tl h.ok.md h.len
theorem Rn.acc {r v : Int} (h : Rn s n t c m o) (hs : seesS s = r) (hT : acT s.hd s.tl s.md s.sl.length = v) : AC Tryz.prog 231 [wdT s.hd s.tl s.md, .int .i64 s.sl.length] (.tuple #[wdT s.hd v s.md, .int .i64 (acP s.hd s.tl s.md s.sl.length), .int .i64 r]) := hs ▸ hT ▸ ac_paccept s.hd s.tl s.md s.sl.length h.ok.hd h.ok.tl h.ok.md h.len
theorem Rn.evi {b : Bool} (h : Rn s n t c m o) {q : Int} (hq : In64 q) (hb : evwB s.hd s.tl s.md s.sl.length q = b) : AC Tryz.prog 232 [wdT s.hd s.tl s.md, .int .i64 s.sl.length, .int .i64 q] (.tuple #[wdT (evH s.hd s.tl s.md s.sl.length q) s.tl s.md, .bool b]) := ac_pevict hb h.ok.hd h.ok.tl h.ok.md h.len hq
variable {x : Exit} {S : Sg}
set_option maxRecDepth 100000 in
theorem lp_enter (h : Rn s n t 0 m o) (hm : s.sn.length ≤ 999999) (hL : LoopP Tryz.prog (loopOf Tryz.prog 58 0) (hdS ((s.toSn (entL s.sn n)).setTh n (pcT t 1)) n m (o + 1) (s.th.length)) x S) : LoopP Tryz.prog (loopOf Tryz.prog 58 0) (hdS s n m o s.th.length) x S :=
  loop_more mixed (fuel := 9) (n := 9) (im := [0, 1, 2]) (keep := [2, 6, 8, 9]) (ext := [21, 84, 85, 148]) (orc := [.bool true, vD true, .bool false, .bool false, thT (pcT t 0), .int .i64 0, .nilFunc, thT (pcT t 0), .int .i64 1, .nilFunc, thT (pcT t 0), .tuple #[rowI (entL s.sn n), .int .i64 (entE s.sn n)], thT (pcT t 0), vRow s.th.length ((s.th.set n (pcT t 1)).map thT)])
    (an h.lt <| an h.ln <| an (ac_pcheck h.ck h.ok) <| an h.ge <| an h.le <| an h.id <| an h.el <| an h.ru <| an h.id <| an h.el <| an h.si <| an h.id <| an h.el <| an (ac_penter s.sn n hm) <| an (h.id) <| an (h.el) <| an (setT s.th n (pcT t 1)) <|  an h.o1 trivial) (by kernel_rfl) hL
set_option maxRecDepth 100000 in
theorem lp_first (h : Rn s n t 1 m o) (hp : (plI s.sn n == 0) = true) (hL : LoopP Tryz.prog (loopOf Tryz.prog 58 0) (hdS (s.setTh n (pcT t 2)) n m (o + 1) (s.th.length)) x S) : LoopP Tryz.prog (loopOf Tryz.prog 58 0) (hdS s n m o s.th.length) x S :=
  loop_more mixed (fuel := 9) (n := 9) (im := [0, 1, 2]) (keep := [2, 6, 8, 9]) (ext := [21, 84, 85, 149]) (orc := [.bool true, vD true, .bool false, .bool false, thT (pcT t 1), .int .i64 0, .nilFunc, thT (pcT t 1), .int .i64 1, .nilFunc, thT (pcT t 1), vD true, thT (pcT t 1), vRow s.th.length ((s.th.set n (pcT t 2)).map thT)])
    (an h.lt <| an h.ln <| an (ac_pcheck h.ck h.ok) <| an h.ge <| an h.le <| an h.id <| an h.el <| an h.ru <| an h.id <| an h.el <| an h.si <| an h.id <| an h.el <| an (ac_pfirst hp) <| an (h.id) <| an (h.el) <| an (setT s.th n (pcT t 2)) <|  an h.o1 trivial) (by kernel_rfl) hL
set_option maxRecDepth 100000 in
theorem lp_firstL (h : Rn s n t 1 m o) (hp : (plI s.sn n == 0) = false) (hl : t.la = true) (hL : LoopP Tryz.prog (loopOf Tryz.prog 58 0) (hdS (((s.setTh n (rgT (pcT t 1) 5 0)).addLg (tlE s n t.ki 5 0)).setTh n (pcT (rgT t 5 0) 9)) n m (o + 1) ((s.th.set n (rgT (pcT t 1) 5 0)).length)) x S) : LoopP Tryz.prog (loopOf Tryz.prog 58 0) (hdS s n m o s.th.length) x S :=
  loop_more mixed (fuel := 9) (n := 9) (im := [0, 4, 2]) (keep := [2, 6, 8, 9]) (ext := [21, 84, 85, 149, 200]) (orc := [.bool true, vD true, .bool false, .bool false, thT (pcT t 1), .int .i64 0, .nilFunc, thT (pcT t 1), .int .i64 1, .nilFunc, thT (pcT t 1), vD false, thT (pcT t 1), .bool true, thT (pcT t 1), .iface 1000004 (.func (.yield 18) #[.agg (stL ((s.setTh n (rgT (pcT t 1) 5 0)).addLg (tlE s n t.ki 5 0))), .int .i64 11] #[]), thT (rgT (pcT t 1) 5 0), vRow (s.th.set n (rgT (pcT t 1) 5 0)).length (((s.th.set n (rgT (pcT t 1) 5 0)).set n (pcT (rgT t 5 0) 9)).map thT)])
    (an h.lt <| an h.ln <| an (ac_pcheck h.ck h.ok) <| an h.ge <| an h.le <| an h.id <| an h.el <| an h.ru <| an h.id <| an h.el <| an h.si <| an h.id <| an h.el <| an (ac_pfirst hp) <| an (h.id) <| an (h.el) <| an (hl) <| an (h.id) <| an (h.el) <| an (h.ln) <| an (h.tell (r := 5)) <| an (h.ids (rgT (pcT t 1) 5 0)) <| an (el2 h.hn (rgT (pcT t 1) 5 0)) <| an (setT (s.th.set n (rgT (pcT t 1) 5 0)) n (pcT (rgT t 5 0) 9)) <|  an h.o1 trivial) (by kernel_rfl) hL
set_option maxRecDepth 100000 in
theorem lp_firstT (h : Rn s n t 1 m o) (hp : (plI s.sn n == 0) = false) (hl : t.la = false) (hr : In64 (t.tr + 1)) (hL : LoopP Tryz.prog (loopOf Tryz.prog 58 0) (hdS (s.setTh n (tryT (pcT t 1))) n m (o + 1) (s.th.length)) x S) : LoopP Tryz.prog (loopOf Tryz.prog 58 0) (hdS s n m o s.th.length) x S :=
  loop_more mixed (fuel := 9) (n := 9) (im := [0, 1, 2]) (keep := [2, 6, 8, 9]) (ext := [21, 84, 85, 149]) (orc := [.bool true, vD true, .bool false, .bool false, thT (pcT t 1), .int .i64 0, .nilFunc, thT (pcT t 1), .int .i64 1, .nilFunc, thT (pcT t 1), vD false, thT (pcT t 1), .bool false, thT (pcT t 1), thT (pcT t 1), vRow s.th.length ((s.th.set n (tryT (pcT t 1))).map thT)])
    (an h.lt <| an h.ln <| an (ac_pcheck h.ck h.ok) <| an h.ge <| an h.le <| an h.id <| an h.el <| an h.ru <| an h.id <| an h.el <| an h.si <| an h.id <| an h.el <| an (ac_pfirst hp) <| an (h.id) <| an (h.el) <| an (hl) <| an (h.id) <| an (h.el) <| an (hr) <| an (h.el) <| an (setT s.th n (tryT (pcT t 1))) <|  an h.o1 trivial) (by kernel_rfl) hL
set_option maxRecDepth 100000 in
theorem lp_lookR (h : Rn s n t 2 m o) (hs : seesS s = 1) (hL : LoopP Tryz.prog (loopOf Tryz.prog 58 0) (hdS (s.setTh n (regT t s.tl 3)) n m (o + 1) (s.th.length)) x S) : LoopP Tryz.prog (loopOf Tryz.prog 58 0) (hdS s n m o s.th.length) x S :=
  loop_more mixed (fuel := 9) (n := 9) (im := [0, 1, 2]) (keep := [2, 6, 8, 9]) (ext := [21, 84, 85, 201]) (orc := [.bool true, vD true, .bool false, .bool false, thT (pcT t 2), .int .i64 0, .nilFunc, thT (pcT t 2), .int .i64 1, .nilFunc, thT (pcT t 2), .tuple #[.int .i64 1, .int .i64 (tkR s.hd s.tl s.md s.sl.length)], .nilFunc, thT (pcT t 2), vRow s.th.length ((s.th.set n (regT t s.tl 2)).map thT), thT (regT t s.tl 2), vRow s.th.length ((s.th.set n (regT t s.tl 3)).map thT)])
    (an h.lt <| an h.ln <| an (ac_pcheck h.ck h.ok) <| an h.ge <| an h.le <| an h.id <| an h.el <| an h.ru <| an h.id <| an h.el <| an h.si <| an h.id <| an h.el <| an (h.sees hs) <| an (h.id) <| an (h.el) <| an (setT s.th n (regT t s.tl 2)) <| an (h.id) <| an (el2 h.hn (regT t s.tl 2)) <| an (set2 s.th n (regT t s.tl 2) (regT t s.tl 3)) <|  an h.o1 trivial) (by kernel_rfl) hL
set_option maxRecDepth 100000 in
theorem lp_lookN (h : Rn s n t 2 m o) (hs : seesS s = 2) (hp : (s.cf.po == 1) = true) (hL : LoopP Tryz.prog (loopOf Tryz.prog 58 0) (hdS (((s.setTh n (rgT (pcT t 2) 3 0)).addLg (tlE s n t.ki 3 0)).setTh n (pcT (rgT t 3 0) 9)) n m (o + 1) ((s.th.set n (rgT (pcT t 2) 3 0)).length)) x S) : LoopP Tryz.prog (loopOf Tryz.prog 58 0) (hdS s n m o s.th.length) x S :=
  loop_more mixed (fuel := 9) (n := 9) (im := [0, 4, 2]) (keep := [2, 6, 8, 9]) (ext := [21, 84, 85, 201, 200]) (orc := [.bool true, vD true, .bool false, .bool false, thT (pcT t 2), .int .i64 0, .nilFunc, thT (pcT t 2), .int .i64 1, .nilFunc, thT (pcT t 2), .tuple #[.int .i64 2, .int .i64 (tkR s.hd s.tl s.md s.sl.length)], .nilFunc, .nilFunc, .bool true, thT (pcT t 2), .iface 1000004 (.func (.yield 18) #[.agg (stL ((s.setTh n (rgT (pcT t 2) 3 0)).addLg (tlE s n t.ki 3 0))), .int .i64 11] #[]), thT (rgT (pcT t 2) 3 0), vRow (s.th.set n (rgT (pcT t 2) 3 0)).length (((s.th.set n (rgT (pcT t 2) 3 0)).set n (pcT (rgT t 3 0) 9)).map thT)])
    (an h.lt <| an h.ln <| an (ac_pcheck h.ck h.ok) <| an h.ge <| an h.le <| an h.id <| an h.el <| an h.ru <| an h.id <| an h.el <| an h.si <| an h.id <| an h.el <| an (h.sees hs) <| an (hp) <| an (h.id) <| an (h.el) <| an (h.ln) <| an (h.tell (r := 3)) <| an (h.ids (rgT (pcT t 2) 3 0)) <| an (el2 h.hn (rgT (pcT t 2) 3 0)) <| an (setT (s.th.set n (rgT (pcT t 2) 3 0)) n (pcT (rgT t 3 0) 9)) <|  an h.o1 trivial) (by kernel_rfl) hL
set_option maxRecDepth 100000 in
theorem lp_lookO (h : Rn s n t 2 m o) (hs : seesS s = 2) (hp : (s.cf.po == 1) = false) (hq : (s.cf.po == 2) = true) (hL : LoopP Tryz.prog (loopOf Tryz.prog 58 0) (hdS (s.setTh n (regT t s.hd 10)) n m (o + 1) (s.th.length)) x S) : LoopP Tryz.prog (loopOf Tryz.prog 58 0) (hdS s n m o s.th.length) x S :=
  loop_more mixed (fuel := 9) (n := 9) (im := [0, 1, 2]) (keep := [2, 6, 8, 9]) (ext := [21, 84, 85, 201]) (orc := [.bool true, vD true, .bool false, .bool false, thT (pcT t 2), .int .i64 0, .nilFunc, thT (pcT t 2), .int .i64 1, .nilFunc, thT (pcT t 2), .tuple #[.int .i64 2, .int .i64 (tkR s.hd s.tl s.md s.sl.length)], .nilFunc, .nilFunc, .bool false, .bool true, thT (pcT t 2), vRow s.th.length ((s.th.set n (regT t s.hd 2)).map thT), thT (regT t s.hd 2), vRow s.th.length ((s.th.set n (regT t s.hd 10)).map thT)])
    (an h.lt <| an h.ln <| an (ac_pcheck h.ck h.ok) <| an h.ge <| an h.le <| an h.id <| an h.el <| an h.ru <| an h.id <| an h.el <| an h.si <| an h.id <| an h.el <| an (h.sees hs) <| an (hp) <| an (hq) <| an (h.id) <| an (h.el) <| an (setT s.th n (regT t s.hd 2)) <| an (h.id) <| an (el2 h.hn (regT t s.hd 2)) <| an (set2 s.th n (regT t s.hd 2) (regT t s.hd 10)) <|  an h.o1 trivial) (by kernel_rfl) hL
set_option maxRecDepth 100000 in
theorem lp_lookB (h : Rn s n t 2 m o) (hs : seesS s = 2) (hp : (s.cf.po == 1) = false) (hq : (s.cf.po == 2) = false) (hk : opOnce t.ki = true) (hL : LoopP Tryz.prog (loopOf Tryz.prog 58 0) (hdS (((s.setTh n (rgT (pcT t 2) 2 0)).addLg (tlE s n t.ki 2 0)).setTh n (pcT (rgT t 2 0) 9)) n m (o + 1) ((s.th.set n (rgT (pcT t 2) 2 0)).length)) x S) : LoopP Tryz.prog (loopOf Tryz.prog 58 0) (hdS s n m o s.th.length) x S :=
  loop_more mixed (fuel := 9) (n := 9) (im := [0, 4, 2]) (keep := [2, 6, 8, 9]) (ext := [21, 84, 85, 201, 200, 202]) (orc := [.bool true, vD true, .bool false, .bool false, thT (pcT t 2), .int .i64 0, .nilFunc, thT (pcT t 2), .int .i64 1, .nilFunc, thT (pcT t 2), .tuple #[.int .i64 2, .int .i64 (tkR s.hd s.tl s.md s.sl.length)], .nilFunc, .nilFunc, .bool false, .bool false, thT (pcT t 2), vD true, thT (pcT t 2), .iface 1000004 (.func (.yield 18) #[.agg (stL ((s.setTh n (rgT (pcT t 2) 2 0)).addLg (tlE s n t.ki 2 0))), .int .i64 11] #[]), thT (rgT (pcT t 2) 2 0), vRow (s.th.set n (rgT (pcT t 2) 2 0)).length (((s.th.set n (rgT (pcT t 2) 2 0)).set n (pcT (rgT t 2 0) 9)).map thT)])
    (an h.lt <| an h.ln <| an (ac_pcheck h.ck h.ok) <| an h.ge <| an h.le <| an h.id <| an h.el <| an h.ru <| an h.id <| an h.el <| an h.si <| an h.id <| an h.el <| an (h.sees hs) <| an (hp) <| an (hq) <| an (h.id) <| an (h.el) <| an (ac_ponce hk) <| an (h.id) <| an (h.el) <| an (h.ln) <| an (h.tell (r := 2)) <| an (h.ids (rgT (pcT t 2) 2 0)) <| an (el2 h.hn (rgT (pcT t 2) 2 0)) <| an (setT (s.th.set n (rgT (pcT t 2) 2 0)) n (pcT (rgT t 2 0) 9)) <|  an h.o1 trivial) (by kernel_rfl) hL
set_option maxRecDepth 100000 in
theorem lp_lookL (h : Rn s n t 2 m o) (hs : seesS s = 2) (hp : (s.cf.po == 1) = false) (hq : (s.cf.po == 2) = false) (hk : opOnce t.ki = false) (hl : t.la = true) (hL : LoopP Tryz.prog (loopOf Tryz.prog 58 0) (hdS (((s.setTh n (rgT (pcT t 2) 5 0)).addLg (tlE s n t.ki 5 0)).setTh n (pcT (rgT t 5 0) 9)) n m (o + 1) ((s.th.set n (rgT (pcT t 2) 5 0)).length)) x S) : LoopP Tryz.prog (loopOf Tryz.prog 58 0) (hdS s n m o s.th.length) x S :=
  loop_more mixed (fuel := 9) (n := 9) (im := [0, 4, 2]) (keep := [2, 6, 8, 9]) (ext := [21, 84, 85, 201, 200, 202]) (orc := [.bool true, vD true, .bool false, .bool false, thT (pcT t 2), .int .i64 0, .nilFunc, thT (pcT t 2), .int .i64 1, .nilFunc, thT (pcT t 2), .tuple #[.int .i64 2, .int .i64 (tkR s.hd s.tl s.md s.sl.length)], .nilFunc, .nilFunc, .bool false, .bool false, thT (pcT t 2), vD false, thT (pcT t 2), .bool true, thT (pcT t 2), .iface 1000004 (.func (.yield 18) #[.agg (stL ((s.setTh n (rgT (pcT t 2) 5 0)).addLg (tlE s n t.ki 5 0))), .int .i64 11] #[]), thT (rgT (pcT t 2) 5 0), vRow (s.th.set n (rgT (pcT t 2) 5 0)).length (((s.th.set n (rgT (pcT t 2) 5 0)).set n (pcT (rgT t 5 0) 9)).map thT)])
    (an h.lt <| an h.ln <| an (ac_pcheck h.ck h.ok) <| an h.ge <| an h.le <| an h.id <| an h.el <| an h.ru <| an h.id <| an h.el <| an h.si <| an h.id <| an h.el <| an (h.sees hs) <| an (hp) <| an (hq) <| an (h.id) <| an (h.el) <| an (ac_ponce hk) <| an (h.el) <| an (hl) <| an (h.id) <| an (h.el) <| an (h.ln) <| an (h.tell (r := 5)) <| an (h.ids (rgT (pcT t 2) 5 0)) <| an (el2 h.hn (rgT (pcT t 2) 5 0)) <| an (setT (s.th.set n (rgT (pcT t 2) 5 0)) n (pcT (rgT t 5 0) 9)) <|  an h.o1 trivial) (by kernel_rfl) hL
set_option maxRecDepth 100000 in
theorem lp_lookP (h : Rn s n t 2 m o) (hs : seesS s = 2) (hp : (s.cf.po == 1) = false) (hq : (s.cf.po == 2) = false) (hk : opOnce t.ki = false) (hl : t.la = false) (hn : waySt s (max t.tr 0) = 2) (hL : LoopP Tryz.prog (loopOf Tryz.prog 58 0) (hdS (s.setTh n (pcT t 5)) n m (o + 1) (s.th.length)) x S) : LoopP Tryz.prog (loopOf Tryz.prog 58 0) (hdS s n m o s.th.length) x S :=
  loop_more mixed (fuel := 9) (n := 9) (im := [0, 1, 2]) (keep := [2, 6, 8, 9]) (ext := [21, 84, 85, 201, 202, 203]) (orc := [.bool true, vD true, .bool false, .bool false, thT (pcT t 2), .int .i64 0, .nilFunc, thT (pcT t 2), .int .i64 1, .nilFunc, thT (pcT t 2), .tuple #[.int .i64 2, .int .i64 (tkR s.hd s.tl s.md s.sl.length)], .nilFunc, .nilFunc, .bool false, .bool false, thT (pcT t 2), vD false, thT (pcT t 2), .bool false, thT (pcT t 2), .int .i64 2, .nilFunc, thT (pcT t 2), vRow s.th.length ((s.th.set n (pcT t 5)).map thT)])
    (an h.lt <| an h.ln <| an (ac_pcheck h.ck h.ok) <| an h.ge <| an h.le <| an h.id <| an h.el <| an h.ru <| an h.id <| an h.el <| an h.si <| an h.id <| an h.el <| an (h.sees hs) <| an (hp) <| an (hq) <| an (h.id) <| an (h.el) <| an (ac_ponce hk) <| an (h.el) <| an (hl) <| an (h.el) <| an (ac_pnext' hn) <| an (h.id) <| an (h.el) <| an (setT s.th n (pcT t 5)) <|  an h.o1 trivial) (by kernel_rfl) hL
set_option maxRecDepth 100000 in
theorem lp_lookT (h : Rn s n t 2 m o) (hs : seesS s = 2) (hp : (s.cf.po == 1) = false) (hq : (s.cf.po == 2) = false) (hk : opOnce t.ki = false) (hl : t.la = false) {r : Int} (hn : waySt s (max t.tr 0) = r) (hr2 : (r == 2) = false) (hr : In64 (t.tr + 1)) (hL : LoopP Tryz.prog (loopOf Tryz.prog 58 0) (hdS (s.setTh n (tryT (pcT t 2))) n m (o + 1) (s.th.length)) x S) : LoopP Tryz.prog (loopOf Tryz.prog 58 0) (hdS s n m o s.th.length) x S :=
  loop_more mixed (fuel := 9) (n := 9) (im := [0, 1, 2]) (keep := [2, 6, 8, 9]) (ext := [21, 84, 85, 201, 202, 203]) (orc := [.bool true, vD true, .bool false, .bool false, thT (pcT t 2), .int .i64 0, .nilFunc, thT (pcT t 2), .int .i64 1, .nilFunc, thT (pcT t 2), .tuple #[.int .i64 2, .int .i64 (tkR s.hd s.tl s.md s.sl.length)], .nilFunc, .nilFunc, .bool false, .bool false, thT (pcT t 2), vD false, thT (pcT t 2), .bool false, thT (pcT t 2), .int .i64 r, .bool false, thT (pcT t 2), thT (pcT t 2), vRow s.th.length ((s.th.set n (tryT (pcT t 2))).map thT)])
    (an h.lt <| an h.ln <| an (ac_pcheck h.ck h.ok) <| an h.ge <| an h.le <| an h.id <| an h.el <| an h.ru <| an h.id <| an h.el <| an h.si <| an h.id <| an h.el <| an (h.sees hs) <| an (hp) <| an (hq) <| an (h.id) <| an (h.el) <| an (ac_ponce hk) <| an (h.el) <| an (hl) <| an (h.el) <| an (ac_pnext' hn) <| an (hr2) <| an (h.id) <| an (h.el) <| an (hr) <| an (h.el) <| an (setT s.th n (tryT (pcT t 2))) <|  an h.o1 trivial) (by kernel_rfl) hL
set_option maxRecDepth 100000 in
theorem lp_lookE (h : Rn s n t 2 m o) {r : Int} (hs : seesS s = r) (h1 : (r == 1) = false) (h2 : (r == 2) = false) (hL : LoopP Tryz.prog (loopOf Tryz.prog 58 0) (hdS (((s.setTh n (rgT (pcT t 2) r 0)).addLg (tlE s n t.ki r 0)).setTh n (pcT (rgT t r 0) 9)) n m (o + 1) ((s.th.set n (rgT (pcT t 2) r 0)).length)) x S) : LoopP Tryz.prog (loopOf Tryz.prog 58 0) (hdS s n m o s.th.length) x S :=
  loop_more mixed (fuel := 9) (n := 9) (im := [0, 4, 2]) (keep := [2, 6, 8, 9]) (ext := [21, 84, 85, 201, 200]) (orc := [.bool true, vD true, .bool false, .bool false, thT (pcT t 2), .int .i64 0, .nilFunc, thT (pcT t 2), .int .i64 1, .nilFunc, thT (pcT t 2), .tuple #[.int .i64 r, .int .i64 (tkR s.hd s.tl s.md s.sl.length)], .bool false, .bool false, thT (pcT t 2), .iface 1000004 (.func (.yield 18) #[.agg (stL ((s.setTh n (rgT (pcT t 2) r 0)).addLg (tlE s n t.ki r 0))), .int .i64 11] #[]), thT (rgT (pcT t 2) r 0), vRow (s.th.set n (rgT (pcT t 2) r 0)).length (((s.th.set n (rgT (pcT t 2) r 0)).set n (pcT (rgT t r 0) 9)).map thT)])
    (an h.lt <| an h.ln <| an (ac_pcheck h.ck h.ok) <| an h.ge <| an h.le <| an h.id <| an h.el <| an h.ru <| an h.id <| an h.el <| an h.si <| an h.id <| an h.el <| an (h.sees hs) <| an (h1) <| an (h2) <| an (h.id) <| an (h.el) <| an (h.ln) <| an (h.tell (r := r)) <| an (h.ids (rgT (pcT t 2) r 0)) <| an (el2 h.hn (rgT (pcT t 2) r 0)) <| an (setT (s.th.set n (rgT (pcT t 2) r 0)) n (pcT (rgT t r 0) 9)) <|  an h.o1 trivial) (by kernel_rfl) hL
set_option maxRecDepth 100000 in
theorem lp_write (h : Rn s n t 3 m o) (hm : s.sl.length ≤ 1000) (hr : In64 t.re) (hw : wrE s.sl t.re = 0) (hL : LoopP Tryz.prog (loopOf Tryz.prog 58 0) (hdS ((s.toSl (wrL s.sl t.re t.va)).setTh n (pcT t 4)) n m (o + 1) (s.th.length)) x S) : LoopP Tryz.prog (loopOf Tryz.prog 58 0) (hdS s n m o s.th.length) x S :=
  loop_more mixed (fuel := 9) (n := 9) (im := [0, 1, 2]) (keep := [2, 6, 8, 9]) (ext := [21, 84, 85, 230]) (orc := [.bool true, vD true, .bool false, .bool false, thT (pcT t 3), .int .i64 0, .nilFunc, thT (pcT t 3), .int .i64 1, .nilFunc, thT (pcT t 3), thT (pcT t 3), thT (pcT t 3), .tuple #[rowS (wrL s.sl t.re t.va), .int .i64 0], .nilFunc, thT (pcT t 3), vRow s.th.length ((s.th.set n (pcT t 4)).map thT)])
    (an h.lt <| an h.ln <| an (ac_pcheck h.ck h.ok) <| an h.ge <| an h.le <| an h.id <| an h.el <| an h.ru <| an h.id <| an h.el <| an h.si <| an h.id <| an h.el <| an (h.id) <| an (h.el) <| an (h.id) <| an (h.el) <| an (hw ▸ ac_pwrite s.sl t.re t.va hm hr) <| an (h.id) <| an (h.el) <| an (setT s.th n (pcT t 4)) <|  an h.o1 trivial) (by kernel_rfl) hL
set_option maxRecDepth 100000 in
theorem lp_writeE (h : Rn s n t 3 m o) (hm : s.sl.length ≤ 1000) (hr : In64 t.re) (hw : (wrE s.sl t.re != 0) = true) (hL : LoopP Tryz.prog (loopOf Tryz.prog 58 0) (hdS (s) n m (o + 1) (s.th.length)) x S) : LoopP Tryz.prog (loopOf Tryz.prog 58 0) (hdS s n m o s.th.length) x S :=
  loop_more mixed (fuel := 9) (n := 9) (im := [0, 1, 2]) (keep := [2, 6, 8, 9]) (ext := [21, 84, 85, 230]) (orc := [.bool true, vD true, .bool false, .bool false, thT (pcT t 3), .int .i64 0, .nilFunc, thT (pcT t 3), .int .i64 1, .nilFunc, thT (pcT t 3), thT (pcT t 3), thT (pcT t 3), .tuple #[rowS (wrL s.sl t.re t.va), .int .i64 (wrE s.sl t.re)], .bool true])
    (an h.lt <| an h.ln <| an (ac_pcheck h.ck h.ok) <| an h.ge <| an h.le <| an h.id <| an h.el <| an h.ru <| an h.id <| an h.el <| an h.si <| an h.id <| an h.el <| an (h.id) <| an (h.el) <| an (h.id) <| an (h.el) <| an (ac_pwrite s.sl t.re t.va hm hr) <| an (hw) <|  an h.o1 trivial) (by kernel_rfl) hL
set_option maxRecDepth 100000 in
theorem lp_acceptR (h : Rn s n t 4 m o) (hs : seesS s = 1) (hT : acT s.hd s.tl s.md s.sl.length = s.tl + 1) (hA : hasB (s.toWord s.hd (s.tl + 1) s.md) n = true) (ho : (s.toWord s.hd (s.tl + 1) s.md).ok) (hf : (s.toWord s.hd (s.tl + 1) s.md).fit) (hL : LoopP Tryz.prog (loopOf Tryz.prog 58 0) (hdS ((((s.toWord s.hd (s.tl + 1) s.md).setTh n (rgT (pcT t 4) 1 0)).addLg (tlE (s.toWord s.hd (s.tl + 1) s.md) n t.ki 1 0)).setTh n (pcT (rgT t 1 0) 6)) n m (o + 1) ((s.th.set n (rgT (pcT t 4) 1 0)).length)) x S) : LoopP Tryz.prog (loopOf Tryz.prog 58 0) (hdS s n m o s.th.length) x S :=
  loop_more mixed (fuel := 9) (n := 9) (im := [0, 5, 2]) (keep := [2, 6, 8, 9]) (ext := [21, 84, 85, 231, 200]) (orc := [.bool true, vD true, .bool false, .bool false, thT (pcT t 4), .int .i64 0, .nilFunc, thT (pcT t 4), .int .i64 1, .nilFunc, thT (pcT t 4), .tuple #[wdT s.hd (s.tl + 1) s.md, .int .i64 (acP s.hd s.tl s.md s.sl.length), .int .i64 1], .nilFunc, thT (pcT t 4), .iface 1000004 (.func (.yield 18) #[.agg (stL (((s.toWord s.hd (s.tl + 1) s.md).setTh n (rgT (pcT t 4) 1 0)).addLg (tlE (s.toWord s.hd (s.tl + 1) s.md) n t.ki 1 0))), .int .i64 11] #[]), thT (rgT (pcT t 4) 1 0), vRow ((s.toWord s.hd (s.tl + 1) s.md).th.set n (rgT (pcT t 4) 1 0)).length ((((s.toWord s.hd (s.tl + 1) s.md).th.set n (rgT (pcT t 4) 1 0)).set n (pcT (rgT t 1 0) 9)).map thT), thT (pcT (rgT t 1 0) 9), vRow (s.th.set n (rgT (pcT t 4) 1 0)).length (((s.th.set n (rgT (pcT t 4) 1 0)).set n (pcT (rgT t 1 0) 6)).map thT)])
    (an h.lt <| an h.ln <| an (ac_pcheck h.ck h.ok) <| an h.ge <| an h.le <| an h.id <| an h.el <| an h.ru <| an h.id <| an h.el <| an h.si <| an h.id <| an h.el <| an (h.acc hs hT) <| an (h.id) <| an (h.el) <| an (h.ln) <| an (tell_c (r := 1) hA h.ht h.nk ho hf) <| an (h.ids (rgT (pcT t 4) 1 0)) <| an (el2 h.hn (rgT (pcT t 4) 1 0)) <| an (setT (s.th.set n (rgT (pcT t 4) 1 0)) n (pcT (rgT t 1 0) 9)) <| an (h.ids (rgT (pcT t 4) 1 0)) <| an (el3 (l := (s.th.set n (rgT (pcT t 4) 1 0))) (by rw [List.length_set]; exact h.hn) (pcT (rgT t 1 0) 9)) <| an (set2 (s.th.set n (rgT (pcT t 4) 1 0)) n (pcT (rgT t 1 0) 9) (pcT (rgT t 1 0) 6)) <|  an h.o1 trivial) (by kernel_rfl) hL
set_option maxRecDepth 100000 in
theorem lp_acceptF (h : Rn s n t 4 m o) (hs : seesS s = 2) (hL : LoopP Tryz.prog (loopOf Tryz.prog 58 0) (hdS (s.setTh n (pcT t 2)) n m (o + 1) (s.th.length)) x S) : LoopP Tryz.prog (loopOf Tryz.prog 58 0) (hdS s n m o s.th.length) x S :=
  loop_more mixed (fuel := 9) (n := 9) (im := [0, 1, 2]) (keep := [2, 6, 8, 9]) (ext := [21, 84, 85, 231]) (orc := [.bool true, vD true, .bool false, .bool false, thT (pcT t 4), .int .i64 0, .nilFunc, thT (pcT t 4), .int .i64 1, .nilFunc, thT (pcT t 4), .tuple #[wdT s.hd (acT s.hd s.tl s.md s.sl.length) s.md, .int .i64 (acP s.hd s.tl s.md s.sl.length), .int .i64 2], .nilFunc, .nilFunc, thT (pcT t 4), vRow s.th.length ((s.th.set n (pcT t 2)).map thT)])
    (an h.lt <| an h.ln <| an (ac_pcheck h.ck h.ok) <| an h.ge <| an h.le <| an h.id <| an h.el <| an h.ru <| an h.id <| an h.el <| an h.si <| an h.id <| an h.el <| an (h.acc hs rfl) <| an (h.id) <| an (h.el) <| an (setT s.th n (pcT t 2)) <|  an h.o1 trivial) (by kernel_rfl) hL
set_option maxRecDepth 100000 in
theorem lp_acceptE (h : Rn s n t 4 m o) {r : Int} (hs : seesS s = r) (h1 : (r == 1) = false) (h2 : (r == 2) = false) (hL : LoopP Tryz.prog (loopOf Tryz.prog 58 0) (hdS (((s.setTh n (rgT (pcT t 4) r 0)).addLg (tlE s n t.ki r 0)).setTh n (pcT (rgT t r 0) 9)) n m (o + 1) ((s.th.set n (rgT (pcT t 4) r 0)).length)) x S) : LoopP Tryz.prog (loopOf Tryz.prog 58 0) (hdS s n m o s.th.length) x S :=
  loop_more mixed (fuel := 9) (n := 9) (im := [0, 5, 2]) (keep := [2, 6, 8, 9]) (ext := [21, 84, 85, 231, 200]) (orc := [.bool true, vD true, .bool false, .bool false, thT (pcT t 4), .int .i64 0, .nilFunc, thT (pcT t 4), .int .i64 1, .nilFunc, thT (pcT t 4), .tuple #[wdT s.hd (acT s.hd s.tl s.md s.sl.length) s.md, .int .i64 (acP s.hd s.tl s.md s.sl.length), .int .i64 r], .bool false, .bool false, thT (pcT t 4), .iface 1000004 (.func (.yield 18) #[.agg (stL ((s.setTh n (rgT (pcT t 4) r 0)).addLg (tlE s n t.ki r 0))), .int .i64 11] #[]), thT (rgT (pcT t 4) r 0), vRow (s.th.set n (rgT (pcT t 4) r 0)).length (((s.th.set n (rgT (pcT t 4) r 0)).set n (pcT (rgT t r 0) 9)).map thT)])
    (an h.lt <| an h.ln <| an (ac_pcheck h.ck h.ok) <| an h.ge <| an h.le <| an h.id <| an h.el <| an h.ru <| an h.id <| an h.el <| an h.si <| an h.id <| an h.el <| an (h.acc hs rfl) <| an (h1) <| an (h2) <| an (h.id) <| an (h.el) <| an (h.ln) <| an (h.tell (r := r)) <| an (h.ids (rgT (pcT t 4) r 0)) <| an (el2 h.hn (rgT (pcT t 4) r 0)) <| an (setT (s.th.set n (rgT (pcT t 4) r 0)) n (pcT (rgT t r 0) 9)) <|  an h.o1 trivial) (by kernel_rfl) hL
set_option maxRecDepth 100000 in
theorem lp_notifyN (h : Rn s n t 6 m o) (hm : s.el.length ≤ 999999) (hb : hdB (ntT 1 s.ee s.el) = false) (hL : LoopP Tryz.prog (loopOf Tryz.prog 58 0) (hdS ((s.toEmpty (ntE s.ee s.el) (ntL 1 s.ee s.el)).setTh n (pcT t 9)) n m (o + 1) (s.th.length)) x S) : LoopP Tryz.prog (loopOf Tryz.prog 58 0) (hdS s n m o s.th.length) x S :=
  loop_more mixed (fuel := 9) (n := 9) (im := [0, 1, 2]) (keep := [2, 6, 8, 9]) (ext := [21, 84, 85, 159]) (orc := [.bool true, vD true, .bool false, .bool false, thT (pcT t 6), .int .i64 0, .nilFunc, thT (pcT t 6), .int .i64 1, .nilFunc, thT (pcT t 6), .tuple #[evT (ntE s.ee s.el) (ntL 1 s.ee s.el), .int .i64 (hdI (ntT 1 s.ee s.el)), vD false], thT (pcT t 6), vRow s.th.length ((s.th.set n (pcT t 9)).map thT)])
    (an h.lt <| an h.ln <| an (ac_pcheck h.ck h.ok) <| an h.ge <| an h.le <| an h.id <| an h.el <| an h.ru <| an h.id <| an h.el <| an h.si <| an h.id <| an h.el <| an (ac_pnotify hb hm) <| an (h.id) <| an (h.el) <| an (setT s.th n (pcT t 9)) <|  an h.o1 trivial) (by kernel_rfl) hL
set_option maxRecDepth 100000 in
theorem lp_notifyW (h : Rn s n t 6 m o) (hm : s.el.length ≤ 999999) (hb : hdB (ntT 1 s.ee s.el) = true) {q : Nat} (hq : hdI (ntT 1 s.ee s.el) = q) (hA : hasB (s.toEmpty (ntE s.ee s.el) (ntL 1 s.ee s.el)) q = true) (ho : (s.toEmpty (ntE s.ee s.el) (ntL 1 s.ee s.el)).ok) (hf : (s.toEmpty (ntE s.ee s.el) (ntL 1 s.ee s.el)).fit) (hg : gth (s.th.set q (wakeT (gth s.th q))) n = pcT t 6) (hL : LoopP Tryz.prog (loopOf Tryz.prog 58 0) (hdS (((s.toEmpty (ntE s.ee s.el) (ntL 1 s.ee s.el)).onTh q wakeT).setTh n (pcT t 9)) n m (o + 1) ((s.th.set q (wakeT (gth s.th q))).length)) x S) : LoopP Tryz.prog (loopOf Tryz.prog 58 0) (hdS s n m o s.th.length) x S :=
  loop_more mixed (fuel := 9) (n := 9) (im := [0, 5, 2]) (keep := [2, 6, 8, 9]) (ext := [21, 84, 85, 159, 70]) (orc := [.bool true, vD true, .bool false, .bool false, thT (pcT t 6), .int .i64 0, .nilFunc, thT (pcT t 6), .int .i64 1, .nilFunc, thT (pcT t 6), .tuple #[evT (ntE s.ee s.el) (ntL 1 s.ee s.el), .int .i64 q, vD true], .iface 1000004 (.func (.yield 18) #[.agg (stL ((s.toEmpty (ntE s.ee s.el) (ntL 1 s.ee s.el)).onTh q wakeT)), .int .i64 11] #[]), thT (pcT t 6), vRow (s.th.set q (wakeT (gth s.th q))).length (((s.th.set q (wakeT (gth s.th q))).set n (pcT t 9)).map thT)])
    (an h.lt <| an h.ln <| an (ac_pcheck h.ck h.ok) <| an h.ge <| an h.le <| an h.id <| an h.el <| an h.ru <| an h.id <| an h.el <| an h.si <| an h.id <| an h.el <| an (hq ▸ ac_pnotify hb hm) <| an (h.ln) <| an (ao_wake hA ho hf) <| an (h.idw q (wakeT (gth s.th q))) <| an (hg ▸ elT (l := (s.th.set q (wakeT (gth s.th q)))) (by rw [List.length_set]; exact h.hn)) <| an (setT (s.th.set q (wakeT (gth s.th q))) n (pcT t 9)) <|  an h.o1 trivial) (by kernel_rfl) hL
set_option maxRecDepth 100000 in
theorem lp_againY (h : Rn s n t 7 m o) (hs : seesS s = 2) (hl : (!t.la) = true) (hL : LoopP Tryz.prog (loopOf Tryz.prog 58 0) (hdS (s.setTh n (pcT t 8)) n m (o + 1) (s.th.length)) x S) : LoopP Tryz.prog (loopOf Tryz.prog 58 0) (hdS s n m o s.th.length) x S :=
  loop_more mixed (fuel := 9) (n := 9) (im := [0, 1, 2]) (keep := [2, 6, 8, 9]) (ext := [21, 84, 85, 201]) (orc := [.bool true, vD true, .bool false, .bool false, thT (pcT t 7), .int .i64 0, .nilFunc, thT (pcT t 7), .int .i64 1, .nilFunc, thT (pcT t 7), .tuple #[.int .i64 2, .int .i64 (tkR s.hd s.tl s.md s.sl.length)], .nilFunc, thT (pcT t 7), .bool true, thT (pcT t 7), vRow s.th.length ((s.th.set n (pcT t 8)).map thT)])
    (an h.lt <| an h.ln <| an (ac_pcheck h.ck h.ok) <| an h.ge <| an h.le <| an h.id <| an h.el <| an h.ru <| an h.id <| an h.el <| an h.si <| an h.id <| an h.el <| an (h.sees hs) <| an (h.id) <| an (h.el) <| an (hl) <| an (h.id) <| an (h.el) <| an (setT s.th n (pcT t 8)) <|  an h.o1 trivial) (by kernel_rfl) hL
set_option maxRecDepth 100000 in
theorem lp_againL (h : Rn s n t 7 m o) (hs : seesS s = 2) (hl : (!t.la) = false) (hL : LoopP Tryz.prog (loopOf Tryz.prog 58 0) (hdS (s.setTh n (pcT t 2)) n m (o + 1) (s.th.length)) x S) : LoopP Tryz.prog (loopOf Tryz.prog 58 0) (hdS s n m o s.th.length) x S :=
  loop_more mixed (fuel := 9) (n := 9) (im := [0, 1, 2]) (keep := [2, 6, 8, 9]) (ext := [21, 84, 85, 201]) (orc := [.bool true, vD true, .bool false, .bool false, thT (pcT t 7), .int .i64 0, .nilFunc, thT (pcT t 7), .int .i64 1, .nilFunc, thT (pcT t 7), .tuple #[.int .i64 2, .int .i64 (tkR s.hd s.tl s.md s.sl.length)], .nilFunc, thT (pcT t 7), .bool false, thT (pcT t 7), vRow s.th.length ((s.th.set n (pcT t 2)).map thT)])
    (an h.lt <| an h.ln <| an (ac_pcheck h.ck h.ok) <| an h.ge <| an h.le <| an h.id <| an h.el <| an h.ru <| an h.id <| an h.el <| an h.si <| an h.id <| an h.el <| an (h.sees hs) <| an (h.id) <| an (h.el) <| an (hl) <| an (h.id) <| an (h.el) <| an (setT s.th n (pcT t 2)) <|  an h.o1 trivial) (by kernel_rfl) hL
set_option maxRecDepth 100000 in
theorem lp_againN (h : Rn s n t 7 m o) {r : Int} (hs : seesS s = r) (h2 : (r == 2) = false) (hL : LoopP Tryz.prog (loopOf Tryz.prog 58 0) (hdS (s.setTh n (pcT t 2)) n m (o + 1) (s.th.length)) x S) : LoopP Tryz.prog (loopOf Tryz.prog 58 0) (hdS s n m o s.th.length) x S :=
  loop_more mixed (fuel := 9) (n := 9) (im := [0, 1, 2]) (keep := [2, 6, 8, 9]) (ext := [21, 84, 85, 201]) (orc := [.bool true, vD true, .bool false, .bool false, thT (pcT t 7), .int .i64 0, .nilFunc, thT (pcT t 7), .int .i64 1, .nilFunc, thT (pcT t 7), .tuple #[.int .i64 r, .int .i64 (tkR s.hd s.tl s.md s.sl.length)], .bool false, thT (pcT t 7), vRow s.th.length ((s.th.set n (pcT t 2)).map thT)])
    (an h.lt <| an h.ln <| an (ac_pcheck h.ck h.ok) <| an h.ge <| an h.le <| an h.id <| an h.el <| an h.ru <| an h.id <| an h.el <| an h.si <| an h.id <| an h.el <| an (h.sees hs) <| an (h2) <| an (h.id) <| an (h.el) <| an (setT s.th n (pcT t 2)) <|  an h.o1 trivial) (by kernel_rfl) hL
set_option maxRecDepth 100000 in
theorem lp_commitL (h : Rn s n t 8 m o) (hl : t.la = true) (hL : LoopP Tryz.prog (loopOf Tryz.prog 58 0) (hdS (s.setTh n (pcT t 2)) n m (o + 1) (s.th.length)) x S) : LoopP Tryz.prog (loopOf Tryz.prog 58 0) (hdS s n m o s.th.length) x S :=
  loop_more mixed (fuel := 9) (n := 9) (im := [0, 1, 2]) (keep := [2, 6, 8, 9]) (ext := [21, 84, 85]) (orc := [.bool true, vD true, .bool false, .bool false, thT (pcT t 8), .int .i64 0, .nilFunc, thT (pcT t 8), .int .i64 1, .nilFunc, thT (pcT t 8), thT (pcT t 8), vRow s.th.length ((s.th.set n (pcT t 2)).map thT), thT (pcT t 2), .bool true])
    (an h.lt <| an h.ln <| an (ac_pcheck h.ck h.ok) <| an h.ge <| an h.le <| an h.id <| an h.el <| an h.ru <| an h.id <| an h.el <| an h.si <| an h.id <| an h.el <| an (h.id) <| an (h.el) <| an (setT s.th n (pcT t 2)) <| an (h.id) <| an (el2 h.hn (pcT t 2)) <| an (hl) <|  an h.o1 trivial) (by kernel_rfl) hL
set_option maxRecDepth 100000 in
theorem lp_commitW (h : Rn s n t 8 m o) (hl : t.la = false) (hm : s.fl.length ≤ 999999) (hb : cmB s.fe s.fl t.se n = true) (hL : LoopP Tryz.prog (loopOf Tryz.prog 58 0) (hdS ((s.toFull s.fe (cmL s.fe s.fl t.se n)).setTh n (parkT t 2)) n m (o + 1) (s.th.length)) x S) : LoopP Tryz.prog (loopOf Tryz.prog 58 0) (hdS s n m o s.th.length) x S :=
  loop_more mixed (fuel := 9) (n := 9) (im := [0, 1, 2]) (keep := [2, 6, 8, 9]) (ext := [21, 84, 85, 160, 161]) (orc := [.bool true, vD true, .bool false, .bool false, thT (pcT t 8), .int .i64 0, .nilFunc, thT (pcT t 8), .int .i64 1, .nilFunc, thT (pcT t 8), thT (pcT t 8), vRow s.th.length ((s.th.set n (pcT t 2)).map thT), thT (pcT t 2), .bool false, thT (pcT t 2), .tuple #[evT s.fe (cmL s.fe s.fl t.se n), vD true, .int .i64 (cmC s.fe s.fl n)], thT (pcT t 2), .tuple #[thT (parkT t 2), .int .i64 0], thT (pcT t 2), vRow s.th.length ((s.th.set n (parkT t 2)).map thT)])
    (an h.lt <| an h.ln <| an (ac_pcheck h.ck h.ok) <| an h.ge <| an h.le <| an h.id <| an h.el <| an h.ru <| an h.id <| an h.el <| an h.si <| an h.id <| an h.el <| an (h.id) <| an (h.el) <| an (setT s.th n (pcT t 2)) <| an (h.id) <| an (el2 h.hn (pcT t 2)) <| an (hl) <| an (h.id) <| an (el2 h.hn (pcT t 2)) <| an (ac_pcommit hb hm) <| an (h.id) <| an (h.id) <| an (el2 h.hn (pcT t 2)) <| an (ac_ppark (park_of (c := 2) h.rs)) <| an (el2 h.hn (pcT t 2)) <| an (set2 s.th n (pcT t 2) (parkT t 2)) <|  an h.o1 trivial) (by kernel_rfl) hL
set_option maxRecDepth 100000 in
theorem lp_commitN (h : Rn s n t 8 m o) (hl : t.la = false) (hm : s.fl.length ≤ 999999) (hb : cmB s.fe s.fl t.se n = false) (hL : LoopP Tryz.prog (loopOf Tryz.prog 58 0) (hdS (s.setTh n (pcT t 2)) n m (o + 1) (s.th.length)) x S) : LoopP Tryz.prog (loopOf Tryz.prog 58 0) (hdS s n m o s.th.length) x S :=
  loop_more mixed (fuel := 9) (n := 9) (im := [0, 1, 2]) (keep := [2, 6, 8, 9]) (ext := [21, 84, 85, 160]) (orc := [.bool true, vD true, .bool false, .bool false, thT (pcT t 8), .int .i64 0, .nilFunc, thT (pcT t 8), .int .i64 1, .nilFunc, thT (pcT t 8), thT (pcT t 8), vRow s.th.length ((s.th.set n (pcT t 2)).map thT), thT (pcT t 2), .bool false, thT (pcT t 2), .tuple #[evT s.fe (cmL s.fe s.fl t.se n), vD false, .int .i64 (cmC s.fe s.fl n)]])
    (an h.lt <| an h.ln <| an (ac_pcheck h.ck h.ok) <| an h.ge <| an h.le <| an h.id <| an h.el <| an h.ru <| an h.id <| an h.el <| an h.si <| an h.id <| an h.el <| an (h.id) <| an (h.el) <| an (setT s.th n (pcT t 2)) <| an (h.id) <| an (el2 h.hn (pcT t 2)) <| an (hl) <| an (h.id) <| an (el2 h.hn (pcT t 2)) <| an (ac_pcommit hb hm) <|  an h.o1 trivial) (by kernel_rfl) hL
set_option maxRecDepth 100000 in
theorem lp_leave (h : Rn s n t 9 m o) (hm : s.sn.length ≤ 999999) (hL : LoopP Tryz.prog (loopOf Tryz.prog 58 0) (hdS ((s.toSn (lvL s.sn n)).setTh n (doneT t)) n m (o + 1) (s.th.length)) x S) : LoopP Tryz.prog (loopOf Tryz.prog 58 0) (hdS s n m o s.th.length) x S :=
  loop_more mixed (fuel := 9) (n := 9) (im := [0, 1, 2]) (keep := [2, 6, 8, 9]) (ext := [21, 84, 85, 162, 163]) (orc := [.bool true, vD true, .bool false, .bool false, thT (pcT t 9), .int .i64 0, .nilFunc, thT (pcT t 9), .int .i64 1, .nilFunc, thT (pcT t 9), .tuple #[rowI (lvL s.sn n), .int .i64 (lvE s.sn n)], thT (pcT t 9), .tuple #[thT (doneT t), .int .i64 0], thT (pcT t 9), vRow s.th.length ((s.th.set n (doneT t)).map thT)])
    (an h.lt <| an h.ln <| an (ac_pcheck h.ck h.ok) <| an h.ge <| an h.le <| an h.id <| an h.el <| an h.ru <| an h.id <| an h.el <| an h.si <| an h.id <| an h.el <| an (ac_pleave s.sn n hm) <| an (h.id) <| an (h.id) <| an (h.el) <| an (ac_pdone (done_of (c := 9) h.rs)) <| an (h.el) <| an (setT s.th n (doneT t)) <|  an h.o1 trivial) (by kernel_rfl) hL
set_option maxRecDepth 100000 in
theorem lp_evictN (h : Rn s n t 10 m o) (hr : In64 t.re) (hb : evwB s.hd s.tl s.md s.sl.length t.re = false) (hL : LoopP Tryz.prog (loopOf Tryz.prog 58 0) (hdS (s.setTh n (pcT t 2)) n m (o + 1) (s.th.length)) x S) : LoopP Tryz.prog (loopOf Tryz.prog 58 0) (hdS s n m o s.th.length) x S :=
  loop_more mixed (fuel := 9) (n := 9) (im := [0, 1, 2]) (keep := [2, 6, 8, 9]) (ext := [21, 84, 85, 232]) (orc := [.bool true, vD true, .bool false, .bool false, thT (pcT t 10), .int .i64 0, .nilFunc, thT (pcT t 10), .int .i64 1, .nilFunc, thT (pcT t 10), thT (pcT t 10), .tuple #[wdT (evH s.hd s.tl s.md s.sl.length t.re) s.tl s.md, vD false], thT (pcT t 10), vRow s.th.length ((s.th.set n (pcT t 2)).map thT)])
    (an h.lt <| an h.ln <| an (ac_pcheck h.ck h.ok) <| an h.ge <| an h.le <| an h.id <| an h.el <| an h.ru <| an h.id <| an h.el <| an h.si <| an h.id <| an h.el <| an (h.id) <| an (h.el) <| an (h.evi hr hb) <| an (h.id) <| an (h.el) <| an (setT s.th n (pcT t 2)) <|  an h.o1 trivial) (by kernel_rfl) hL
set_option maxRecDepth 100000 in
theorem lp_evictY (h : Rn s n t 10 m o) (hr : In64 t.re) (hb : evwB s.hd s.tl s.md s.sl.length t.re = true) (hH : evH s.hd s.tl s.md s.sl.length t.re = s.hd + 1) {g : Int} (hv : valV (s.toWord (s.hd + 1) s.tl s.md) t.re = g) (hA : hasB (s.toWord (s.hd + 1) s.tl s.md) n = true) (ho : (s.toWord (s.hd + 1) s.tl s.md).ok) (hf : (s.toWord (s.hd + 1) s.tl s.md).fit) (hL : LoopP Tryz.prog (loopOf Tryz.prog 58 0) (hdS (((s.toWord (s.hd + 1) s.tl s.md).addLg (tlE (s.toWord (s.hd + 1) s.tl s.md) n 9 1 g)).setTh n (pcT t 11)) n m (o + 1) (s.th.length)) x S) : LoopP Tryz.prog (loopOf Tryz.prog 58 0) (hdS s n m o s.th.length) x S :=
  loop_more mixed (fuel := 9) (n := 9) (im := [0, 5, 2]) (keep := [2, 6, 8, 9]) (ext := [21, 84, 85, 232, 155, 200]) (orc := [.bool true, vD true, .bool false, .bool false, thT (pcT t 10), .int .i64 0, .nilFunc, thT (pcT t 10), .int .i64 1, .nilFunc, thT (pcT t 10), thT (pcT t 10), .tuple #[wdT (s.hd + 1) s.tl s.md, vD true], thT (pcT t 10), .int .i64 g, .iface 1000004 (.func (.yield 18) #[.agg (stL ((s.toWord (s.hd + 1) s.tl s.md).addLg (tlE (s.toWord (s.hd + 1) s.tl s.md) n 9 1 g))), .int .i64 11] #[]), thT (pcT t 10), vRow s.th.length ((s.th.set n (pcT t 11)).map thT)])
    (an h.lt <| an h.ln <| an (ac_pcheck h.ck h.ok) <| an h.ge <| an h.le <| an h.id <| an h.el <| an h.ru <| an h.id <| an h.el <| an h.si <| an h.id <| an h.el <| an (h.id) <| an (h.el) <| an (hH ▸ h.evi hr hb) <| an (h.id) <| an (h.el) <| an (h.ln) <| an (hv ▸ ac_pvalue (s.toWord (s.hd + 1) s.tl s.md) t.re ho hr) <| an (h.ln) <| an (ao_tell9 (r := 1) (g := g) hA ho hf) <| an (h.id) <| an (h.el) <| an (setT s.th n (pcT t 11)) <|  an h.o1 trivial) (by kernel_rfl) hL
set_option maxRecDepth 100000 in
theorem lp_release (h : Rn s n t 11 m o) (hm : s.sl.length ≤ 1000) (hr : In64 t.re) (hL : LoopP Tryz.prog (loopOf Tryz.prog 58 0) (hdS ((s.toSl (rlL s.sl t.re)).setTh n (pcT t 2)) n m (o + 1) (s.th.length)) x S) : LoopP Tryz.prog (loopOf Tryz.prog 58 0) (hdS s n m o s.th.length) x S :=
  loop_more mixed (fuel := 9) (n := 9) (im := [0, 1, 2]) (keep := [2, 6, 8, 9]) (ext := [21, 84, 85, 157]) (orc := [.bool true, vD true, .bool false, .bool false, thT (pcT t 11), .int .i64 0, .nilFunc, thT (pcT t 11), .int .i64 1, .nilFunc, thT (pcT t 11), thT (pcT t 11), .tuple #[rowS (rlL s.sl t.re), .int .i64 (rlE s.sl t.re)], thT (pcT t 11), vRow s.th.length ((s.th.set n (pcT t 2)).map thT)])
    (an h.lt <| an h.ln <| an (ac_pcheck h.ck h.ok) <| an h.ge <| an h.le <| an h.id <| an h.el <| an h.ru <| an h.id <| an h.el <| an h.si <| an h.id <| an h.el <| an (h.id) <| an (h.el) <| an (ac_prelease s.sl t.re hm hr) <| an (h.id) <| an (h.el) <| an (setT s.th n (pcT t 2)) <|  an h.o1 trivial) (by kernel_rfl) hL
end
end Go.Proofs.YtjbcfjfnobklkaaGreat

/- A step of the program is the step of plain states. -/
namespace Go.Proofs.YtjbcfjfnobklkaaGreat
set_option linter.unusedVariables false
set_option linter.unusedSimpArgs false
open Go.RowKit
/-- What is true of a state that a step is done in. -/
structure Sp (s : St) (n : Nat) (m o : Int) : Prop where
  lt : decide (o < min m 1000) = true
  ck : stB s = true
  ok : s.ok
  hn : n < s.th.length
  st : (gth s.th n).st = 1
  sd : opSide (gth s.th n).ki = 1
  lg : s.lg.length ≤ 999999
  o1 : In64 (o + 1)
theorem fit_of {s : St} (h : stB s = true) (hl : s.lg.length ≤ 1000000) : s.fit := by
  obtain ⟨a, b, c, d, -, -⟩ := full_lines h
  have h1 := th_len h
  have h2 := ok_len (stn_iff.1 a).1
  have h3 := ok_len (stn_iff.1 b).1
  have h4 := ok_len (stn_iff.1 c).1
  have h5 := ok_len (stn_iff.1 d).1
  have h6 := (ok_iff.1 (word_ok h).2.1).1
  exact ⟨by omega, by omega, by omega, by omega, by omega, by omega, hl⟩
section
variable {s : St} {n : Nat} {m o : Int} {x : Exit} {S : Sg}
theorem Sp.rn (h : Sp s n m o) {c : Int} (hc : (gth s.th n).pc = c) : Rn s n (gth s.th n) c m o :=
  ⟨h.lt, h.ck, h.ok, h.hn, by rw [← hc]; rfl, by rw [h.st]; rfl, h.sd, fit_of h.ck (by have := h.lg; omega), h.o1⟩
/-- Whatever numbers tell how many threads there are. -/
def Nxt (s : St) (n : Nat) (m o : Int) (x : Exit) (S : Sg) : Prop := ∀ N, N = s.th.length → LoopP Tryz.prog (loopOf Tryz.prog 58 0) (hdS s n m o N) x S
theorem Nxt.to {s s' : St} (h : Nxt s n m o x S) (e : s = s') {N : Nat} (hN : N = s'.th.length) : LoopP Tryz.prog (loopOf Tryz.prog 58 0) (hdS s' n m o N) x S := by subst e; exact h N hN
theorem try_on {t : Th} (h : thB t = true) {c : Int} (hc : t.pc = c) : tryT (pcT t c) = onT t := by
  obtain ⟨st, ki, va, un, pc, re, se, tr, la, rs, go⟩ := t
  simp only at hc
  subst hc
  rw [thB_iff] at h
  simp only [tryT, pcT, onT]
  congr 1
  split <;> omega
theorem told_is {s : St} (h : stB s = true) {n : Nat} (hn : n < s.th.length) {c r p : Int} (hk : (gth s.th n).ki ≠ 9) :
    toldS s n (gth s.th n).ki r 0 p = ((s.setTh n (rgT (pcT (gth s.th n) c) r 0)).addLg (tlE s n (gth s.th n).ki r 0)).setTh n (pcT (rgT (gth s.th n) r 0) p) := by
  unfold toldS
  rw [tell_th h hn]
  unfold St.onTh
  have e : gth (s.th.set n (tellT (gth s.th n) (gth s.th n).ki r 0)) n = tellT (gth s.th n) (gth s.th n).ki r 0 := by rw [gth_set hn, if_pos rfl]
  have e2 : tellT (gth s.th n) (gth s.th n).ki r 0 = rgT (gth s.th n) r 0 := by unfold tellT; rw [if_neg hk]; rfl
  show St.mk _ _ _ _ _ _ _ _ _ _ _ _ ((s.th.set n _).set n (pcT (gth (s.th.set n _) n) p)) _ = St.mk _ _ _ _ _ _ _ _ _ _ _ _ ((s.th.set n _).set n _) _
  rw [e, e2, List.set_set, List.set_set]
  rfl
theorem len_set {l : List Th} {n : Nat} {t u : Th} : (l.set n t).length = ((l.set n t).set n u).length := by simp
theorem len1 {l : List Th} {n : Nat} {t : Th} : l.length = (l.set n t).length := by simp
theorem Sp.ki (h : Sp s n m o) : (gth s.th n).ki ≠ 9 := fun e => by have := h.sd; rw [e] at this; exact absurd this (by decide)
theorem Sp.tb (h : Sp s n m o) : thB (gth s.th n) = true := gth_ok h.ck h.hn
theorem Sp.tr (h : Sp s n m o) : In64 ((gth s.th n).tr + 1) ∧ In64 (gth s.th n).re ∧ max (gth s.th n).tr 0 = (gth s.th n).tr := by
  have := h.tb
  generalize gth s.th n = t at this
  obtain ⟨st, ki, va, un, pc, re, se, tr, la, rs, go⟩ := t
  rw [thB_iff] at this
  simp only [In64]
  omega
theorem Sp.few (h : Sp s n m o) : s.sn.length ≤ 999999 ∧ s.fl.length ≤ 999999 ∧ s.el.length ≤ 999999 ∧ s.sl.length ≤ 1000 := by
  obtain ⟨a, b, c, d, -, -⟩ := full_lines h.ck
  have h2 := ok_len (stn_iff.1 a).1
  have h4 := ok_len (stn_iff.1 c).1
  have h5 := ok_len (stn_iff.1 d).1
  have h6 := (ok_iff.1 (word_ok h.ck).2.1).1
  omega
theorem bne_of {a b : Int} (h : a ≠ b) : (a == b) = false := by simp [h]
theorem first_lp (h : Sp s n m o) (hc : (gth s.th n).pc = 1) (hL : Nxt (firstS s n) n m (o + 1) x S) : LoopP Tryz.prog (loopOf Tryz.prog 58 0) (hdS s n m o s.th.length) x S := by
  have hR := h.rn hc
  unfold firstS at hL
  split at hL
  · next hp => exact lp_first hR (by simp [hp]) (hL.to rfl len1)
  · next hp =>
    split at hL
    · next hl => exact lp_firstL hR (bne_of hp) hl (hL.to (told_is h.ck h.hn h.ki) len_set)
    · next hl => exact lp_firstT hR (bne_of hp) (by simpa using hl) h.tr.1 (hL.to (by unfold St.onTh; rw [try_on h.tb hc]) len1)
theorem look_lp (h : Sp s n m o) (hc : (gth s.th n).pc = 2) (hL : Nxt (lookS s n) n m (o + 1) x S) : LoopP Tryz.prog (loopOf Tryz.prog 58 0) (hdS s n m o s.th.length) x S := by
  have hR := h.rn hc
  unfold lookS at hL
  split at hL
  · next hs => exact lp_lookR hR hs (hL.to rfl len1)
  · next h1 =>
    split at hL
    · next hs =>
      unfold fullS at hL
      split at hL
      · next hp => exact lp_lookN hR hs (by simp [hp]) (hL.to (told_is h.ck h.hn h.ki) len_set)
      · next hp =>
        split at hL
        · next hq => exact lp_lookO hR hs (bne_of hp) (by simp [hq]) (hL.to rfl len1)
        · next hq =>
          split at hL
          · next hk => exact lp_lookB hR hs (bne_of hp) (bne_of hq) (by rw [hk]; rfl) (hL.to (told_is h.ck h.hn h.ki) len_set)
          · next hk =>
            have ho : opOnce (gth s.th n).ki = false := by
              have := h.sd
              generalize (gth s.th n).ki = k at this hk
              have h3 : k = 1 ∨ k = 3 := by rcases side_is k with h | h | h | h <;> omega
              rcases h3 with rfl | rfl <;> rfl
            split at hL
            · next hl => exact lp_lookL hR hs (bne_of hp) (bne_of hq) ho hl (hL.to (told_is h.ck h.hn h.ki) len_set)
            · next hl =>
              have hl' : (gth s.th n).la = false := by simpa using hl
              split at hL
              · next hw => exact lp_lookP hR hs (bne_of hp) (bne_of hq) ho hl' (by rw [h.tr.2.2]; exact hw) (hL.to rfl len1)
              · next hw => exact lp_lookT hR hs (bne_of hp) (bne_of hq) ho hl' (by rw [h.tr.2.2]) (bne_of hw) h.tr.1 (hL.to (by unfold St.onTh; rw [try_on h.tb hc]) len1)
    · next h2 => exact lp_lookE hR rfl (bne_of h1) (bne_of h2) (hL.to (told_is h.ck h.hn h.ki) len_set)
theorem write_lp (h : Sp s n m o) (hc : (gth s.th n).pc = 3) (hL : Nxt (sendN s n) n m (o + 1) x S) : LoopP Tryz.prog (loopOf Tryz.prog 58 0) (hdS s n m o s.th.length) x S := by
  have hR := h.rn hc
  rw [sendN_3 hc] at hL
  split at hL
  · next hw => exact lp_write hR h.few.2.2.2 h.tr.2.1 hw (hL.to rfl len1)
  · next hw => exact lp_writeE hR h.few.2.2.2 h.tr.2.1 (by simp [hw]) (hL.to rfl rfl)
theorem again_lp (h : Sp s n m o) (hc : (gth s.th n).pc = 7) (hL : Nxt (sendN s n) n m (o + 1) x S) : LoopP Tryz.prog (loopOf Tryz.prog 58 0) (hdS s n m o s.th.length) x S := by
  have hR := h.rn hc
  rw [sendN_7 hc] at hL
  by_cases hs : seesS s = 2
  · cases hl : (gth s.th n).la
    · rw [if_pos ⟨hs, hl⟩] at hL
      exact lp_againY hR hs (by rw [hl]; rfl) (hL.to rfl len1)
    · rw [if_neg (by rw [hl]; simp)] at hL
      exact lp_againL hR hs (by rw [hl]; rfl) (hL.to rfl len1)
  · rw [if_neg (fun e => hs e.1)] at hL
    exact lp_againN hR rfl (bne_of hs) (hL.to rfl len1)
theorem commit_lp (h : Sp s n m o) (hc : (gth s.th n).pc = 8) (hL : Nxt (commitS s n) n m (o + 1) x S) : LoopP Tryz.prog (loopOf Tryz.prog 58 0) (hdS s n m o s.th.length) x S := by
  have hR := h.rn hc
  unfold commitS at hL
  split at hL
  · next hl => exact lp_commitL hR hl (hL.to rfl len1)
  · next hl =>
    have hl' : (gth s.th n).la = false := by simpa using hl
    split at hL
    · next hb => exact lp_commitW hR hl' h.few.2.1 hb (hL.to (by unfold cmL; rw [if_pos hb]; rfl) len1)
    · next hb => exact lp_commitN hR hl' h.few.2.1 (by simpa using hb) (hL.to rfl len1)
/-- What the word becomes, may be. -/
theorem acc_ok (h : Sp s n m o) (hs : seesS s = 1) : stB (s.toWord s.hd (s.tl + 1) s.md) = true ∧ (s.toWord s.hd (s.tl + 1) s.md).ok := by
  have h2 := ac_check (word_ok h.ck).1
  rw [(ac_y hs).1] at h2
  have h3 := check_iff.1 h2
  exact ⟨word_stB h.ck h2, ⟨h.ok.cf, h.ok.hd, (show In64 (s.tl + 1) by constructor <;> omega), h.ok.md, h.ok.fe, h.ok.ee, h.ok.nw, h.ok.sl, h.ok.sn, h.ok.rc, h.ok.fl, h.ok.el, h.ok.th, h.ok.lg⟩⟩
theorem ev_ok (h : Sp s n m o) {p : Int} (hb : evwB s.hd s.tl s.md s.sl.length p = true) : stB (s.toWord (s.hd + 1) s.tl s.md) = true ∧ (s.toWord (s.hd + 1) s.tl s.md).ok := by
  have h2 := ev_check (x := p) (word_ok h.ck).1
  rw [show evH s.hd s.tl s.md s.sl.length p = s.hd + 1 by unfold evH; rw [if_pos hb]] at h2
  have h3 := check_iff.1 h2
  exact ⟨word_stB h.ck h2, ⟨h.ok.cf, (show In64 (s.hd + 1) by constructor <;> omega), h.ok.tl, h.ok.md, h.ok.fe, h.ok.ee, h.ok.nw, h.ok.sl, h.ok.sn, h.ok.rc, h.ok.fl, h.ok.el, h.ok.th, h.ok.lg⟩⟩
theorem accept_lp (h : Sp s n m o) (hc : (gth s.th n).pc = 4) (hL : Nxt (acceptS s n) n m (o + 1) x S) : LoopP Tryz.prog (loopOf Tryz.prog 58 0) (hdS s n m o s.th.length) x S := by
  have hR := h.rn hc
  unfold acceptS at hL
  split at hL
  · next hs =>
    obtain ⟨h1, h2⟩ := acc_ok h hs
    refine lp_acceptR hR hs (ac_y hs).1 (has_of h1 h.hn) h2 (fit_of h1 (by have := h.lg; show s.lg.length ≤ 1000000; omega)) (hL.to ?_ len_set)
    exact told_is (c := 4) h1 h.hn h.ki |>.trans (by show St.mk _ _ _ _ _ _ _ _ _ _ _ _ ((s.th.set n _).set n _) _ = St.mk _ _ _ _ _ _ _ _ _ _ _ _ ((s.th.set n _).set n _) _; rfl)
  · next h1 =>
    split at hL
    · next hs => exact lp_acceptF hR hs (hL.to rfl len1)
    · next h2 => exact lp_acceptE hR rfl (bne_of h1) (bne_of h2) (hL.to (told_is h.ck h.hn h.ki) len_set)
theorem evict_lp (h : Sp s n m o) (hc : (gth s.th n).pc = 10) (hL : Nxt (evictS s n) n m (o + 1) x S) : LoopP Tryz.prog (loopOf Tryz.prog 58 0) (hdS s n m o s.th.length) x S := by
  have hR := h.rn hc
  unfold evictS at hL
  split at hL
  · next hb =>
    obtain ⟨h1, h2⟩ := ev_ok h hb
    have hv : valV (s.toWord (s.hd + 1) s.tl s.md) (gth s.th n).re = valV s (gth s.th n).re := by
      unfold valV; rw [h1, h.ck]; rfl
    refine lp_evictY hR h.tr.2.1 hb (by unfold evH; rw [if_pos hb]) hv (has_of h1 h.hn) h2 (fit_of h1 (by have := h.lg; show s.lg.length ≤ 1000000; omega)) (hL.to ?_ len1)
    unfold toldS
    rw [tell_th h1 h.hn]
    unfold St.onTh
    show St.mk _ _ _ _ _ _ _ _ _ _ _ _ ((s.th.set n (gth s.th n)).set n (pcT (gth (s.th.set n (gth s.th n)) n) 11)) _ = St.mk _ _ _ _ _ _ _ _ _ _ _ _ (s.th.set n _) _
    rw [List.set_set, gth_set h.hn, if_pos rfl]
    rfl
  · next hb => exact lp_evictN hR h.tr.2.1 (by simpa using hb) (hL.to rfl len1)
theorem empty_ok (h : Sp s n m o) : stB (s.toEmpty (ntE s.ee s.el) (ntL 1 s.ee s.el)) = true ∧ (s.toEmpty (ntE s.ee s.el) (ntL 1 s.ee s.el)).ok := by
  obtain ⟨-, -, -, d, -, e⟩ := full_lines h.ck
  have h1 : okE (ntE s.ee s.el) (ntL 1 s.ee s.el) = true := by simp only [ntE, ntL, e, if_true]; exact okE_nx e (ok_drop (okE_ln e) 1)
  have h2 : stnB s.cf.th (ntL 1 s.ee s.el) = true := by simp only [ntL, e, if_true]; exact stn_sub d (ok_drop (okE_ln e) 1) (fun x hx => List.mem_of_mem_drop hx)
  have h3 := (okE_iff.1 h1).1
  have hb := h.ok.el
  refine ⟨empty_stB h.ck h1 h2, ⟨h.ok.cf, h.ok.hd, h.ok.tl, h.ok.md, h.ok.fe, (show In64 (ntE s.ee s.el) by constructor <;> omega), h.ok.nw, h.ok.sl, h.ok.sn, h.ok.rc, h.ok.fl, ?_, h.ok.th, h.ok.lg⟩⟩
  show (∀ x ∈ ntL 1 s.ee s.el, In64 x) ∧ (ntL 1 s.ee s.el).length ≤ maxLen
  simp only [ntL, e, if_true]
  exact ⟨fun x hx => hb.1 x (List.mem_of_mem_drop hx), by rw [List.length_drop]; omega⟩
theorem wake_one {t : Th} (h : t.st = 1) : wakeT t = t := by unfold wakeT; rw [if_neg (by omega)]
theorem notify_lp (h : Sp s n m o) (hc : (gth s.th n).pc = 6) (hL : Nxt (notifyS s n) n m (o + 1) x S) : LoopP Tryz.prog (loopOf Tryz.prog 58 0) (hdS s n m o s.th.length) x S := by
  have hR := h.rn hc
  obtain ⟨h1, h2⟩ := empty_ok h
  unfold notifyS at hL
  split at hL
  · next hb =>
    obtain ⟨-, -, -, d, -, e⟩ := full_lines h.ck
    have hth := th_len h.ck
    have hq : ∃ q : Nat, hdI (ntT 1 s.ee s.el) = q ∧ q < s.th.length := by
      have hb' := hb
      simp only [ntT, e, if_true] at hb' ⊢
      cases hl : s.el with
      | nil => rw [hl] at hb'; cases hb'
      | cons y r =>
        have hy : y ∈ s.el := by rw [hl]; exact List.mem_cons_self
        have h3 := (stn_iff.1 d).2 y hy
        have h4 := (okl_iff.1 (stn_iff.1 d).1).1 y hy
        exact ⟨y.toNat, by show y = _; omega, by omega⟩
    obtain ⟨q, hq, hql⟩ := hq
    have h9 : stB ((s.toEmpty (ntE s.ee s.el) (ntL 1 s.ee s.el)).onTh n (pcT · 9)) = true := onTh_stB h1 (pcT_ok h.tb (by have := h.st; omega) (by decide))
    have e6 : gth s.th n = pcT (gth s.th n) 6 := by conv => lhs; rw [show gth s.th n = pcT (gth s.th n) (gth s.th n).pc from rfl, hc]
    have hA : hasB ((s.toEmpty (ntE s.ee s.el) (ntL 1 s.ee s.el)).onTh n (pcT · 9)) q = true := has_of h9 (by show q < (s.th.set n _).length; rw [List.length_set]; exact hql)
    have hg : gth (s.th.set q (wakeT (gth s.th q))) n = pcT (gth s.th n) 6 := by
      rw [gth_set hql]
      split
      · next e => subst e; rw [wake_one h.st]; exact e6
      · exact e6
    refine lp_notifyW hR h.few.2.2.1 hb hq (has_of h1 hql) h2 (fit_of h1 (by have := h.lg; show s.lg.length ≤ 1000000; omega)) hg (hL.to ?_ len1)
    rw [hq]
    unfold wakeS
    rw [if_pos hA]
    unfold St.onTh
    show St.mk _ _ _ _ _ _ _ _ _ _ _ _ ((s.th.set n (pcT (gth s.th n) 9)).set (q : Int).toNat (wakeT (gth (s.th.set n (pcT (gth s.th n) 9)) (q : Int).toNat))) _ = St.mk _ _ _ _ _ _ _ _ _ _ _ _ ((s.th.set q (wakeT (gth s.th q))).set n (pcT (gth s.th n) 9)) _
    congr 1
    rw [Int.toNat_natCast, gth_set h.hn]
    by_cases hqn : n = q
    · subst hqn
      rw [if_pos rfl, List.set_set, List.set_set, wake_one (show (pcT (gth s.th n) 9).st = 1 from h.st)]
    · rw [if_neg hqn, List.set_comm _ _ hqn]
  · next hb => exact lp_notifyN hR h.few.2.2.1 (by simpa using hb) (hL.to rfl len1)
/-- A step. -/
theorem step_lp (h : Sp s n m o) (hL : Nxt (sendN s n) n m (o + 1) x S) : LoopP Tryz.prog (loopOf Tryz.prog 58 0) (hdS s n m o s.th.length) x S := by
  obtain p | p | p | p | p | p | p | p | p | p | p | p := pc_or h.tb
  · rw [sendN_0 p] at hL; exact lp_enter (h.rn p) h.few.1 (hL.to rfl len1)
  · rw [sendN_1 p] at hL; exact first_lp h p hL
  · rw [sendN_2 p] at hL; exact look_lp h p hL
  · exact write_lp h p hL
  · rw [sendN_4 p] at hL; exact accept_lp h p hL
  · rw [sendN_5 p] at hL
    obtain ⟨-, -, -, -, e, -⟩ := full_lines h.ck
    exact lp_prep (h.rn p) (by unfold prE; rw [if_pos e]) (hL.to rfl len1)
  · rw [sendN_6 p] at hL; exact notify_lp h p hL
  · exact again_lp h p hL
  · rw [sendN_8 p] at hL; exact commit_lp h p hL
  · rw [sendN_9 p] at hL; exact lp_leave (h.rn p) h.few.1 (hL.to rfl len1)
  · rw [sendN_10 p] at hL; exact evict_lp h p hL
  · rw [sendN_11 p] at hL; exact lp_release (h.rn p) h.few.2.2.2 h.tr.2.1 (hL.to rfl len1)
end
end Go.Proofs.YtjbcfjfnobklkaaGreat

/- Values stay those of an int, step by step; a log grows by one at most. -/
namespace Go.Proofs.YtjbcfjfnobklkaaGreat
set_option linter.unusedVariables false
set_option linter.unusedSimpArgs false
open Go.RowKit
/-- The values that a state's parts hold are those of an int. -/
structure Vk (s : St) : Prop where
  cf : s.cf.ok
  sl : ∀ x ∈ s.sl, In64 x.vl
  th : ∀ t ∈ s.th, In64 t.va ∧ In64 t.go
theorem Vk.of {s : St} (h : s.ok) : Vk s := ⟨h.cf, fun x hx => (h.sl.1 x hx).2, fun t ht => ⟨(h.th.1 t ht).2.2.1, (h.th.1 t ht).2.2.2.2.2.2.2.2.2⟩⟩
theorem ln_in {m : Int} {l : List Int} (h : stnB m l = true) : (∀ x ∈ l, In64 x) ∧ l.length ≤ maxLen := by
  have h1 := (stn_iff.1 h).1
  refine ⟨fun x hx => ?_, by have := ok_len h1; simp only [maxLen]; omega⟩
  have := (okl_iff.1 h1).1 x hx
  constructor <;> omega
theorem ok_of {s : St} (h : stB s = true) (hv : Vk s) (hl : s.lg.length ≤ 1000000) : s.ok := by
  obtain ⟨h1, h2, h3, h4, h5, h6, h7, h8⟩ := st_iff.1 h
  obtain ⟨a, b, c, d⟩ := lns_iff.1 h3
  have hw := check_iff.1 (word_ok h).1
  have hsl := ok_iff.1 (word_ok h).2.1
  have e4 := (okE_iff.1 h4).1
  have e5 := (okE_iff.1 h5).1
  have hth := th_len h
  refine ⟨hv.cf, by constructor <;> omega, by constructor <;> omega, by constructor <;> omega, by constructor <;> omega, by constructor <;> omega, by constructor <;> omega, ⟨fun x hx => ⟨?_, hv.sl x hx⟩, by simp only [maxLen]; omega⟩, ln_in a, ln_in b, ln_in c, ln_in d, ⟨fun t ht => ?_, by simp only [maxLen]; omega⟩, by simp only [maxLen]; omega⟩
  · obtain ⟨i, hi, rfl⟩ := List.getElem_of_mem hx
    have := slot_iff.1 (hsl.2 i hi)
    rw [gs_eq hi] at this
    constructor <;> omega
  · have hvt := hv.th t ht
    obtain ⟨i, hi, rfl⟩ := List.getElem_of_mem ht
    have := gth_ok h hi
    rw [gth_eq hi] at this
    generalize s.th[i] = t at this hvt
    obtain ⟨st, ki, va, un, pc, re, se, tr, la, rs, go⟩ := t
    rw [thB_iff] at this
    simp only [In64, Th.ok] at hvt ⊢
    omega
section
variable {s : St} {n : Nat}
theorem Vk.set (h : Vk s) {t : Th} (ht : In64 t.va ∧ In64 t.go) : Vk (s.setTh n t) := ⟨h.cf, h.sl, fun u hu => by
  rcases List.mem_or_eq_of_mem_set hu with h1 | rfl
  · exact h.th u h1
  · exact ht⟩
theorem gth_mem {l : List Th} {n : Nat} (hn : n < l.length) : gth l n ∈ l := by rw [gth_eq hn]; exact List.getElem_mem hn
theorem Vk.on (h : Vk s) (hn : n < s.th.length) {f : Th → Th} (hf : ∀ t, (f t).va = t.va ∧ (f t).go = t.go) : Vk (s.onTh n f) := h.set (by have := h.th _ (gth_mem hn); rw [(hf _).1, (hf _).2]; exact this)
theorem Vk.told (h : Vk s) (hB : stB s = true) (hn : n < s.th.length) {k r g p : Int} (hg : k = 9 ∨ In64 g) : Vk (toldS s n k r g p) := by
  unfold toldS
  have h1 : Vk (tellS s n k r g) := by
    rw [tell_th hB hn]
    have := h.th _ (gth_mem hn)
    refine ⟨h.cf, h.sl, (h.set (n := n) ?_).th⟩
    unfold tellT
    split
    · exact this
    · exact ⟨this.1, by rcases hg with h | h; contradiction; exact h⟩
  exact h1.on (by rw [tell_th hB hn]; show n < (s.th.set n _).length; rw [List.length_set]; exact hn) (fun _ => ⟨rfl, rfl⟩)
theorem Vk.wake (h : Vk s) (i : Int) : Vk (wakeS s i) := by
  unfold wakeS
  split
  · next hh =>
    refine h.on (by have := has_iff.1 hh; omega) fun t => ?_
    unfold wakeT
    split <;> exact ⟨rfl, rfl⟩
  · exact h
theorem sendN_vk (h : Vk s) (hB : stB s = true) (hn : n < s.th.length) (h1 : (gth s.th n).st ≠ 0) : Vk (sendN s n) := by
  have i0 : In64 0 := by constructor <;> omega
  obtain p | p | p | p | p | p | p | p | p | p | p | p := pc_or (gth_ok hB hn)
  · rw [sendN_0 p]; exact Vk.on (s := s.toSn (entL s.sn n)) (f := (pcT · 1)) ⟨h.cf, h.sl, h.th⟩ hn fun _ => ⟨rfl, rfl⟩
  · rw [sendN_1 p]
    unfold firstS
    repeat' split
    · exact h.on hn fun _ => ⟨rfl, rfl⟩
    · exact h.told hB hn (.inr i0)
    · exact h.on hn fun _ => ⟨rfl, rfl⟩
  · rw [sendN_2 p]
    unfold lookS fullS
    repeat' split
    · exact h.on hn fun _ => ⟨rfl, rfl⟩
    · exact h.told hB hn (.inr i0)
    · exact h.on hn fun _ => ⟨rfl, rfl⟩
    · exact h.told hB hn (.inr i0)
    · exact h.told hB hn (.inr i0)
    · exact h.on hn fun _ => ⟨rfl, rfl⟩
    · exact h.on hn fun _ => ⟨rfl, rfl⟩
    · exact h.told hB hn (.inr i0)
  · rw [sendN_3 p]
    split
    · refine Vk.on (s := s.toSl (wrL s.sl (gth s.th n).re (gth s.th n).va)) (f := (pcT · 4)) ⟨h.cf, fun x hx => ?_, h.th⟩ hn fun _ => ⟨rfl, rfl⟩
      have hx' : x ∈ wrL s.sl (gth s.th n).re (gth s.th n).va := hx
      unfold wrL at hx'
      split at hx'
      · rcases List.mem_or_eq_of_mem_set hx' with h2 | rfl
        · exact h.sl x h2
        · exact (h.th _ (gth_mem hn)).1
      · exact h.sl x hx'
    · exact h
  · rw [sendN_4 p]
    unfold acceptS
    repeat' split
    · next hs =>
      have h2 := ac_check (word_ok hB).1
      rw [(ac_y hs).1] at h2
      exact Vk.told (s := s.toWord s.hd (s.tl + 1) s.md) ⟨h.cf, h.sl, h.th⟩ (word_stB hB h2) hn (.inr i0)
    · exact h.on hn fun _ => ⟨rfl, rfl⟩
    · exact h.told hB hn (.inr i0)
  · rw [sendN_5 p]; exact h.on hn fun _ => ⟨rfl, rfl⟩
  · rw [sendN_6 p]
    have h2 : Vk ((s.toEmpty (ntE s.ee s.el) (ntL 1 s.ee s.el)).onTh n (pcT · 9)) := Vk.on (s := s.toEmpty (ntE s.ee s.el) (ntL 1 s.ee s.el)) (f := (pcT · 9)) ⟨h.cf, h.sl, h.th⟩ hn fun _ => ⟨rfl, rfl⟩
    unfold notifyS
    split
    · exact h2.wake _
    · exact h2
  · rw [sendN_7 p]
    split
    · exact h.on hn fun _ => ⟨rfl, rfl⟩
    · exact h.on hn fun _ => ⟨rfl, rfl⟩
  · rw [sendN_8 p]
    unfold commitS
    repeat' split
    · exact h.on hn fun _ => ⟨rfl, rfl⟩
    · exact Vk.on (s := s.toFull s.fe (s.fl ++ [(n : Int)])) (f := (parkT · 2)) ⟨h.cf, h.sl, h.th⟩ hn fun _ => ⟨rfl, rfl⟩
    · exact h.on hn fun _ => ⟨rfl, rfl⟩
  · rw [sendN_9 p]; exact Vk.on (s := s.toSn (lvL s.sn n)) (f := doneT) ⟨h.cf, h.sl, h.th⟩ hn fun _ => ⟨rfl, rfl⟩
  · rw [sendN_10 p]
    unfold evictS
    split
    · next hb =>
      have h2 := ev_check (x := (gth s.th n).re) (word_ok hB).1
      rw [show evH s.hd s.tl s.md s.sl.length (gth s.th n).re = s.hd + 1 by unfold evH; rw [if_pos hb]] at h2
      exact Vk.told (s := s.toWord (s.hd + 1) s.tl s.md) ⟨h.cf, h.sl, h.th⟩ (word_stB hB h2) hn (.inl rfl)
    · exact h.on hn fun _ => ⟨rfl, rfl⟩
  · rw [sendN_11 p]
    refine Vk.on (s := s.toSl (rlL s.sl (gth s.th n).re)) (f := (pcT · 2)) ⟨h.cf, fun x hx => ?_, h.th⟩ hn fun _ => ⟨rfl, rfl⟩
    have hx' : x ∈ rlL s.sl (gth s.th n).re := hx
    unfold rlL at hx'
    split at hx'
    · next hb =>
      rcases List.mem_or_eq_of_mem_set hx' with h2 | rfl
      · exact h.sl x h2
      · simp only [rlB, rdyB, Bool.and_eq_true] at hb
        have hp := (plc_lt hb.1.1).1
        show In64 (gs s.sl (plc s.sl (gth s.th n).re)).vl
        rw [gs_eq hp]
        exact h.sl _ (List.getElem_mem hp)
    · exact h.sl x hx'
theorem told_lg (hB : stB s = true) (hn : n < s.th.length) {k r g p : Int} : (toldS s n k r g p).lg.length = s.lg.length + 1 := by
  unfold toldS
  rw [tell_th hB hn]
  show (s.lg ++ [_]).length = _
  simp
theorem sendN_lg (hB : stB s = true) (hn : n < s.th.length) : (sendN s n).lg.length ≤ s.lg.length + 1 := by
  have e : ∀ f, (s.onTh n f).lg = s.lg := fun _ => rfl
  obtain p | p | p | p | p | p | p | p | p | p | p | p := pc_or (gth_ok hB hn)
  · rw [sendN_0 p]; exact Nat.le_succ _
  · rw [sendN_1 p]
    unfold firstS
    repeat' split
    · exact Nat.le_succ _
    · rw [told_lg hB hn]; exact Nat.le_refl _
    · exact Nat.le_succ _
  · rw [sendN_2 p]
    unfold lookS fullS
    repeat' split
    all_goals first | exact Nat.le_succ _ | (rw [told_lg hB hn]; exact Nat.le_refl _)
  · rw [sendN_3 p]
    split <;> exact Nat.le_succ _
  · rw [sendN_4 p]
    unfold acceptS
    repeat' split
    · next hs =>
      have h2 := ac_check (word_ok hB).1
      rw [(ac_y hs).1] at h2
      rw [told_lg (s := s.toWord s.hd (s.tl + 1) s.md) (word_stB hB h2) hn]; exact Nat.le_refl _
    · exact Nat.le_succ _
    · rw [told_lg hB hn]; exact Nat.le_refl _
  · rw [sendN_5 p]; exact Nat.le_succ _
  · rw [sendN_6 p]
    unfold notifyS wakeS
    repeat' split
    all_goals exact Nat.le_succ _
  · rw [sendN_7 p]
    split <;> exact Nat.le_succ _
  · rw [sendN_8 p]
    unfold commitS
    repeat' split
    all_goals exact Nat.le_succ _
  · rw [sendN_9 p]; exact Nat.le_succ _
  · rw [sendN_10 p]
    unfold evictS
    split
    · next hb =>
      have h2 := ev_check (x := (gth s.th n).re) (word_ok hB).1
      rw [show evH s.hd s.tl s.md s.sl.length (gth s.th n).re = s.hd + 1 by unfold evH; rw [if_pos hb]] at h2
      rw [told_lg (s := s.toWord (s.hd + 1) s.tl s.md) (word_stB hB h2) hn]; exact Nat.le_refl _
    · exact Nat.le_succ _
  · rw [sendN_11 p]; exact Nat.le_succ _
end
end Go.Proofs.YtjbcfjfnobklkaaGreat

/- The program's Steps: as many steps as there are, told by plain states. -/
namespace Go.Proofs.YtjbcfjfnobklkaaGreat
set_option linter.unusedVariables false
set_option linter.unusedSimpArgs false
open Go.RowKit
section
variable {s : St} {i m o : Int}
set_option maxRecDepth 100000 in
theorem le_many (h : decide (o < min m 1000) = false) : LoopP Tryz.prog (loopOf Tryz.prog 58 0) (hdS s i m o s.th.length) (.exit 0) (hdS s i m o s.th.length) := loop_end mixed (fuel := 9) (n := 9) (im := [0, 1, 2]) (keep := [2, 6, 8, 9]) (ext := [21, 84, 85]) (orc := [.bool false]) (an h trivial) (by intro e; cases e) (by kernel_rfl)
set_option maxRecDepth 100000 in
theorem le_check (h : decide (o < min m 1000) = true) (hB : stB s = false) (ho : s.ok) : LoopP Tryz.prog (loopOf Tryz.prog 58 0) (hdS s i m o s.th.length) (.exit 0) (hdS s i m o s.th.length) := loop_end mixed (fuel := 9) (n := 9) (im := [0, 1, 2]) (keep := [2, 6, 8, 9]) (ext := [21, 84, 85]) (orc := [.bool true, vD false]) (an h <| an (len_map (f := thT) s.th) <| an (ac_pcheck hB ho) trivial) (by intro e; cases e) (by kernel_rfl)
set_option maxRecDepth 100000 in
theorem le_low (h : decide (o < min m 1000) = true) (hB : stB s = true) (ho : s.ok) (hi : decide (i < 0) = true) : LoopP Tryz.prog (loopOf Tryz.prog 58 0) (hdS s i m o s.th.length) (.exit 0) (hdS s i m o s.th.length) := loop_end mixed (fuel := 9) (n := 9) (im := [0, 1, 2]) (keep := [2, 6, 8, 9]) (ext := [21, 84, 85]) (orc := [.bool true, vD true, .bool true]) (an h <| an (len_map (f := thT) s.th) <| an (ac_pcheck hB ho) <| an hi trivial) (by intro e; cases e) (by kernel_rfl)
set_option maxRecDepth 100000 in
theorem le_high (h : decide (o < min m 1000) = true) (hB : stB s = true) (ho : s.ok) (hi : decide (i < 0) = false) (hj : decide ((s.th.length : Int) ≤ i) = true) : LoopP Tryz.prog (loopOf Tryz.prog 58 0) (hdS s i m o s.th.length) (.exit 0) (hdS s i m o s.th.length) := loop_end mixed (fuel := 9) (n := 9) (im := [0, 1, 2]) (keep := [2, 6, 8, 9]) (ext := [21, 84, 85]) (orc := [.bool true, vD true, .bool false, .bool true]) (an h <| an (len_map (f := thT) s.th) <| an (ac_pcheck hB ho) <| an hi <| an hj trivial) (by intro e; cases e) (by kernel_rfl)
variable {n : Nat}
set_option maxRecDepth 100000 in
theorem le_runs (h : decide (o < min m 1000) = true) (hB : stB s = true) (ho : s.ok) (hn : n < s.th.length) (hr : (thRuns (gth s.th n).st == 0) = false) : LoopP Tryz.prog (loopOf Tryz.prog 58 0) (hdS s n m o s.th.length) (.exit 0) (hdS s n m o s.th.length) := loop_end mixed (fuel := 9) (n := 9) (im := [0, 1, 2]) (keep := [2, 6, 8, 9]) (ext := [21, 84, 85]) (orc := [.bool true, vD true, .bool false, .bool false, thT (gth s.th n), .int .i64 (thRuns (gth s.th n).st), .bool false])
  (an h <| an (len_map (f := thT) s.th) <| an (ac_pcheck hB ho) <| an (show decide ((n : Int) < 0) = false by simp) <| an (show decide ((s.th.length : Int) ≤ n) = false by simp; omega) <| an (idT hn) <| an (elT hn) <| an (ac_pruns (t := gth s.th n) rfl) <| an hr trivial) (by intro e; cases e) (by kernel_rfl)
set_option maxRecDepth 100000 in
theorem le_side (h : decide (o < min m 1000) = true) (hB : stB s = true) (ho : s.ok) (hn : n < s.th.length) (hr : thRuns (gth s.th n).st = 0) (hs : (opSide (gth s.th n).ki == 1) = false) : LoopP Tryz.prog (loopOf Tryz.prog 58 0) (hdS s n m o s.th.length) (.exit 0) (hdS s n m o s.th.length) := loop_end mixed (fuel := 9) (n := 9) (im := [0, 1, 2]) (keep := [2, 6, 8, 9]) (ext := [21, 84, 85]) (orc := [.bool true, vD true, .bool false, .bool false, thT (gth s.th n), .int .i64 0, .nilFunc, thT (gth s.th n), .int .i64 (opSide (gth s.th n).ki), .bool false])
  (an h <| an (len_map (f := thT) s.th) <| an (ac_pcheck hB ho) <| an (show decide ((n : Int) < 0) = false by simp) <| an (show decide ((s.th.length : Int) ≤ n) = false by simp; omega) <| an (idT hn) <| an (elT hn) <| an (ac_pruns (t := gth s.th n) hr) <| an (idT hn) <| an (elT hn) <| an (ac_pside (gth s.th n).ki) <| an hs trivial) (by intro e; cases e) (by kernel_rfl)
/-- Who does not send, makes no step. -/
theorem le_not (ho : s.ok) (hr : runsB s i 1 = false) : LoopP Tryz.prog (loopOf Tryz.prog 58 0) (hdS s i m o s.th.length) (.exit 0) (hdS s i m o s.th.length) := by
  cases h : decide (o < min m 1000)
  · exact le_many h
  · cases hB : stB s
    · exact le_check h hB ho
    · by_cases h0 : i < 0
      · exact le_low h hB ho (by simp [h0])
      · by_cases h1 : (s.th.length : Int) ≤ i
        · exact le_high h hB ho (by simp; omega) (by simp [h1])
        · obtain ⟨n, rfl⟩ : ∃ n : Nat, i = n := ⟨i.toNat, by omega⟩
          have hn : n < s.th.length := by omega
          have hr' : ¬ ((gth s.th n).st = 1 ∧ opSide (gth s.th n).ki = 1) := fun e => by
            have : runsB s n 1 = true := runs_iff.2 ⟨has_of hB hn, by simpa using e⟩
            rw [hr] at this; cases this
          by_cases hs : thRuns (gth s.th n).st = 0
          · refine le_side h hB ho hn hs (bne_of fun e => hr' ⟨?_, e⟩)
            have h2 := runs_not hs
            have h3 := gth_ok hB hn
            generalize gth s.th n = t at h2 h3
            obtain ⟨st, ki, va, un, pc, re, se, tr, la, rs, go⟩ := t
            rw [thB_iff] at h3
            simp only at h2 ⊢
            omega
          · exact le_runs h hB ho hn (bne_of hs)
theorem sendS_is {s : St} {n : Nat} (h : runsB s n 1 = true) : sendS s n = sendN s n := by unfold sendS; rw [if_pos h]; rfl
/-- The whole loop. -/
theorem steps_lp (k : Nat) : ∀ {s : St} {o : Int}, Vk s → 0 ≤ o → (min m 1000 - o).toNat = k → s.lg.length + k ≤ 900000 → s.ok → LoopP Tryz.prog (loopOf Tryz.prog 58 0) (hdS s i m o s.th.length) (.exit 0) (hdS (sendK s i k).1 i m (o + (sendK s i k).2) (sendK s i k).1.th.length) := by
  induction k with
  | zero =>
    intro s o _ _ hk _ _
    simp only [sendK]
    rw [show o + ((0 : Nat) : Int) = o by omega]
    exact le_many (by simp; omega)
  | succ k ih =>
    intro s o hv h0 hk hl ho
    cases hr : runsB s i 1
    · have : sendK s i (k + 1) = (s, 0) := by simp [sendK, hr]
      rw [this]
      show LoopP Tryz.prog (loopOf Tryz.prog 58 0) (hdS s i m o s.th.length) (.exit 0) (hdS s i m (o + ((0 : Nat) : Int)) s.th.length)
      rw [show o + ((0 : Nat) : Int) = o by omega]
      exact le_not ho hr
    · obtain ⟨h1, h2, h3⟩ := runs_iff.1 hr
      obtain ⟨hB, hi0, hi1⟩ := has_iff.1 h1
      obtain ⟨n, rfl⟩ : ∃ n : Nat, i = n := ⟨i.toNat, by omega⟩
      have hn : n < s.th.length := by omega
      rw [Int.toNat_natCast] at h2 h3
      have hs1 : (gth s.th n).st ≠ 0 := by omega
      have e : sendK s n (k + 1) = ((sendK (sendN s n) n k).1, (sendK (sendN s n) n k).2 + 1) := by simp only [sendK, hr, if_true, sendS_is hr]
      rw [e]
      have hB' := sendN_stB hB hn hs1
      have hv' := sendN_vk hv hB hn hs1
      have hl' := sendN_lg hB hn
      refine step_lp (s := s) (n := n) ⟨by simp; omega, hB, ho, hn, h2, h3, by omega, by constructor <;> omega⟩ fun N hN => ?_
      have := ih (s := sendN s n) (o := o + 1) hv' (by omega) (by omega) (by omega) (ok_of hB' hv' (by omega))
      rw [hN]
      rw [show o + (((sendK (sendN s n) n k).2 + 1 : Nat) : Int) = o + 1 + ((sendK (sendN s n) n k).2 : Int) by omega]
      exact this
end
theorem neg_no (s : St) : hasB s (-1) = false := by simp [hasB]
set_option maxRecDepth 100000 in
theorem ac_psteps0 {s u : St} {i m o : Int} (hL : LoopP Tryz.prog (loopOf Tryz.prog 58 0) (hdS s i m 0 s.th.length) (.exit 0) (hdS u i m o u.th.length)) (ho : s.ok) (hf : s.fit) (ht : s.th ≠ []) : AC Tryz.prog 58 [stT s, .int .i64 i, .int .i64 m] (.tuple #[stT u, .int .i64 o]) :=
  ac_path mixed (ext := [70]) (fuel := 9) (n := 5) (orc := [.iface 1000004 (.func (.yield 18) #[.agg (stL s), .int .i64 11] #[]), oL [5, 4, 1] [2, 6, 8, 9] 0 [(2, .int .i64 m), (6, pt 2), (8, pt 0), (9, .int .i64 o)] [bX u i u.th.length, bT u.th u.th.length, bZ]])
    (an (ao_keep (neg_no s) ho hf ht) <| an hL <| an (len_map (f := thT) u.th) trivial) (by kernel_rfl)
/-- Some steps. -/
theorem ac_psteps {s : St} {i m : Int} (ho : s.ok) (hf : s.fit) (ht : s.th ≠ []) (hl : s.lg.length ≤ 800000) : AC Tryz.prog 58 [stT s, .int .i64 i, .int .i64 m] (.tuple #[stT (sendK s i (min m 1000).toNat).1, .int .i64 (sendK s i (min m 1000).toNat).2]) := by
  have h := steps_lp (i := i) (m := m) (min m 1000 - 0).toNat (s := s) (o := 0) (.of ho) (Int.le_refl _) rfl (by omega) ho
  rw [show min m 1000 - 0 = min m 1000 by omega, Int.zero_add] at h
  exact ac_psteps0 h ho hf ht
end Go.Proofs.YtjbcfjfnobklkaaGreat

/- 'append([]T{}, l...)': what was there is kept, a literal without room among it. -/
namespace Go.Proofs.YtjbcfjfnobklkaaGreat
set_option linter.unusedVariables false
set_option linter.unusedSimpArgs false
open Go.ChangeShapes Go.WideShapes Go.ChangeAt Go.RowKit
section
variable {P : Program} {w : World}
end
section
variable {P : Program} {w : World}
end
end Go.Proofs.YtjbcfjfnobklkaaGreat

/- A region that draws its order, stores into boxes of its own among what may come in whatever order: by a list of facts, kept over a relation R between worlds (OutG: what was there is kept but for these blocks, and for them G holds as soon as they change). -/
namespace Go.Proofs.YtjbcfjfnobklkaaGreat
set_option linter.unusedVariables false
set_option linter.unusedSimpArgs false
open Go.RowKit
/-- What is known of a value, kept over R. -/
structure KX (R : World → World → Prop) where
  p : Value → World → Prop
  k : ∀ {v : Value} {W W' : World}, p v W → R W W' → p v W'
def KX.eq (R : World → World → Prop) (u : Value) : KX R := ⟨fun v _ => v = u, fun h _ => h⟩
def KX.tt (R : World → World → Prop) : KX R := ⟨fun _ _ => True, fun _ _ => trivial⟩
def FX (R : World → World → Prop) (Fs : List (KX R)) (i : Nat) (v : Value) (W : World) : Prop := (Fs.getD i (KX.tt R)).p v W
structure FactsX (R : World → World → Prop) (D : List (Option Nat)) (F : Nat → Value → World → Prop) (a : Act) (w : World) (done : Nat → Bool) (b : Act) (W : World) : Prop where
  kept : R w W
  defers : b.defers = a.defers
  size : b.tmps.size = a.tmps.size
  rest : ∀ t, some t ∉ D → b.tmps[t]? = a.tmps[t]?
  fact : ∀ i d, D[i]? = some d → done i = true → ∃ v, (∀ t, d = some t → b.tmps[t]? = some v) ∧ F i v W
theorem FactsX.got {R : World → World → Prop} {D : List (Option Nat)} {F : Nat → Value → World → Prop} {a b : Act} {w W : World} {done : Nat → Bool} (h : FactsX R D F a w done b W) (i : Nat) {d : Nat} (hi : D[i]? = some (some d)) (hd : done i = true) : ∃ v, b.tmps.getD d undef = v ∧ F i v W := by
  obtain ⟨v, hv, hF⟩ := h.fact i _ hi hd
  exact ⟨v, by simp [hv d rfl], hF⟩
theorem FactsX.did {R : World → World → Prop} {D : List (Option Nat)} {F : Nat → Value → World → Prop} {a b : Act} {w W : World} {done : Nat → Bool} (h : FactsX R D F a w done b W) (i : Nat) (hi : D[i]? = some none) (hd : done i = true) : ∃ v, F i v W := by
  obtain ⟨v, _, hF⟩ := h.fact i _ hi hd
  exact ⟨v, hF⟩
theorem FactsX.lit {R : World → World → Prop} {D : List (Option Nat)} {F : Nat → Value → World → Prop} {a b : Act} {w W : World} {done : Nat → Bool} (h : FactsX R D F a w done b W) {n : Nat} (hn : a.tmps.size = n) (hd : a.defers = []) :
    ∃ f : Nat → Value, b = ⟨(tab f n []).toArray, []⟩ ∧ ∀ t, b.tmps.getD t undef = f t :=
  ⟨fun t => b.tmps.getD t undef, by rw [tab_eq, List.append_nil]; exact act_lit (h.size.trans hn) (h.defers.trans hd), fun _ => rfl⟩
/-- No slot twice. -/
def onceB (D : List (Option Nat)) : Bool := (List.range D.length).all fun i => (List.range D.length).all fun j => i == j || D.getD i none == none || !(D.getD i none == D.getD j none)
theorem once_spec {D : List (Option Nat)} (h : onceB D = true) {i j d : Nat} (hi : D[i]? = some (some d)) (hj : D[j]? = some (some d)) : i = j := by
  have hil := (List.getElem?_eq_some_iff.1 hi).1
  have hjl := (List.getElem?_eq_some_iff.1 hj).1
  have h1 := List.all_eq_true.1 (List.all_eq_true.1 h i (List.mem_range.2 hil)) j (List.mem_range.2 hjl)
  simpa [List.getD_eq_getElem?_getD, hi, hj] using h1
section
variable {P : Program} {Q : Exit → Act → World → Prop}
end
/-- What was there is kept but for these blocks; if they have changed, G holds. -/
def OutG (X : List Nat) (G : World → Prop) (W W' : World) : Prop := Out X W W' ∧ (Below W.heap.size W W' ∨ G W')
theorem OutG.of {X : List Nat} {G : World → Prop} {W W' : World} (h : Below W.heap.size W W') : OutG X G W W' := ⟨Out.of_kept h, .inl h⟩
theorem OutG.trans {X : List Nat} {G : World → Prop} (hG : ∀ {W W' : World}, G W → Below W.heap.size W W' → G W') {W1 W2 W3 : World} (h : OutG X G W1 W2) (k : OutG X G W2 W3) : OutG X G W1 W3 := by
  refine ⟨h.1.trans k.1 (fun _ h => .inl h), ?_⟩
  rcases k.2 with k2 | k2
  · rcases h.2 with h2 | h2
    · exact .inl (h2.trans (k2.mono h2.size))
    · exact .inr (hG h2 k2)
  · exact .inr k2
/-- A fact kept but for those blocks. -/
def KX.out {X : List Nat} {G : World → Prop} (p : Value → World → Prop) (k : ∀ {v W W'}, p v W → Out X W W' → p v W') : KX (OutG X G) := ⟨p, fun h hk => k h hk.1⟩
def KX.here {X : List Nat} {G : World → Prop} (hG : ∀ {W W' : World}, G W → Below W.heap.size W W' → G W') : KX (OutG X G) := ⟨fun _ W => G W, fun h hk => by rcases hk.2 with h2 | h2; (exact hG h h2); exact h2⟩
end Go.Proofs.YtjbcfjfnobklkaaGreat

/- Layer 6: the document's own answers, of events that may be. Written by tools/evR.py. -/
namespace Go.Proofs.YtjbcfjfnobklkaaGreat
set_option linter.unusedVariables false
set_option linter.unusedSimpArgs false
open Go.ChangeShapes Go.WideShapes Go.ChangeAt Go.RowKit
def KP.nil (base : Nat) (e : TypeId) : KP := ⟨fun v W => ∃ g, v = .slice (some ⟨g, 0, none⟩) 0 0 ∧ base ≤ g ∧ W.heap[g]? = some (.cells #[] e (0, 0)), fun ⟨g, e, h, k⟩ hg => ⟨g, e, h, (hg.block g (Array.getElem?_eq_some_iff.1 k).1).trans k⟩⟩
def KX.nil {G : World → Prop} (b base : Nat) (h : b < base) (e : TypeId) : KX (OutG [b] G) := KX.out (fun v W => ∃ g, v = .slice (some ⟨g, 0, none⟩) 0 0 ∧ base ≤ g ∧ W.heap[g]? = some (.cells #[] e (0, 0))) (fun ⟨g, e, h1, k⟩ ho => ⟨g, e, h1, (ho.block g (Array.getElem?_eq_some_iff.1 k).1 (by simp; omega)).trans k⟩)
def GN (base b : Nat) (n : Int) (l : List Int) (W : World) : Prop := ∃ q c, Bk W b [.int .i64 n, .slice q l.length c] ∧ Ow W base 3 1 intC l (.slice q l.length c)
theorem GN.kept {base b : Nat} {n : Int} {l : List Int} {W W' : World} (h : GN base b n l W) (hg : Below W.heap.size W W') : GN base b n l W' := by
  obtain ⟨q, c, h1, h2⟩ := h
  exact ⟨q, c, h1.kept hg, Ow.kept h2 hg⟩
theorem GN.row {base b : Nat} {n : Int} {l : List Int} {X : List Nat} {W W' : World} {cs : List Value} (h : OutG X (GN base b n l) W W') (hk : Bk W b cs) (hc : cs.length = 2) : ∃ ds, Bk W' b ds ∧ ds.length = 2 := by
  rcases h.2 with h2 | ⟨q, c, h2, -⟩
  · exact ⟨_, hk.kept h2, hc⟩
  · exact ⟨_, h2, rfl⟩
set_option maxHeartbeats 1000000 in
theorem rev_check (ep : Int) (l : List Int) (p : Option Addr) (k : Nat) (w : World) (hl : Sl w 1 intC l (.slice p l.length k)) : Calls Tryz.prog 100 #[.agg #[.int .i64 ep, .slice p l.length k]] w fun e w' => e = .returned (.bool (okE ep l)) ∧ Kept w w' := by
  have H := Lib.hid hl
  clear hl
  obtain ⟨A, hA⟩ : ∃ A, okLn l = A := ⟨_, rfl⟩
  have HA := Lib.hid hA
  obtain ⟨B, hB1⟩ : ∃ B, decide (0 ≤ ep) = B := ⟨_, rfl⟩
  obtain ⟨C, hC1⟩ : ∃ C, decide (ep ≤ 1099511627776) = C := ⟨_, rfl⟩
  have hv : Hid (okE ep l = (B && C && A)) := Lib.hid (by unfold okE; rw [hA, hB1, hC1])
  clear hA
  go_enter Tryz.func100, Tryz.ntmps100; go_upto_region 1 with fail; refine wp_abs (fun W => Below w.heap.size w W ∧ Bk W (w.heap.size) [.int .i64 ep , .slice p l.length k]) ⟨by repeat' (first | (with_reducible exact Below.refl _ _) | (with_reducible assumption) | (with_reducible refine kept_alloc ?_ _) | (with_reducible refine kept_drewN ?_ _) | (with_reducible refine Below.drew ?_) | (with_reducible refine Below.setCell ?_ (by first | omega | (simp; omega) | (simp; done)) _) | (refine kept_trans ?_ (by with_reducible assumption))), (by repeat (first | (exact Bk.new (by first | rfl | (simp; done) | (simp; omega))) | (refine Bk.past ?_)))⟩ ?_; rintro V ⟨hB, hk0⟩
  go_wp2_with ((first | (refine ldol (by rfl) rfl rfl (by first | assumption | exact Bk.past (by assumption)) rfl ?_))); refine (rlcheck_any l p k _ (H.out.kept hB)).mono ?_; rintro e w1 ⟨rfl, hgx⟩; have hBx : Below w.heap.size w w1 := (by repeat' (first | (with_reducible exact Below.refl _ _) | (with_reducible assumption) | (with_reducible refine kept_alloc ?_ _) | (with_reducible refine kept_drewN ?_ _) | (with_reducible refine Below.drew ?_) | (with_reducible refine Below.setCell ?_ (by first | omega | (simp; omega) | (simp; done)) _) | (refine kept_trans ?_ (by with_reducible assumption)))); (try replace hk0 := Bk.kept (by first | exact hk0 | exact Bk.past hk0 | exact Bk.past (Bk.past hk0)) hgx); (try replace hC := kept_trans hC hgx); replace hB := hBx; clear hBx hgx
  rw [HA.out]
  cases A
  · go_wp2
    go_ret
    exact ⟨ret_bool (by rw [hv.out]; simp), hB⟩
  cases B
  · go_wp2_with (first | (refine ldoi (by rfl) rfl rfl (by first | assumption | exact Bk.past (by assumption)) rfl ?_))
    go_ret
    exact ⟨ret_bool (by rw [hv.out]; simp), hB⟩
  cases C
  · go_wp2_with (first | (refine ldoi (by rfl) rfl rfl (by first | assumption | exact Bk.past (by assumption)) rfl ?_))
    go_ret
    exact ⟨ret_bool (by rw [hv.out]; simp), hB⟩
  · go_wp2_with (first | (refine ldoi (by rfl) rfl rfl (by first | assumption | exact Bk.past (by assumption)) rfl ?_))
    go_ret
    exact ⟨ret_bool (by rw [hv.out]; simp), hB⟩
end Go.Proofs.YtjbcfjfnobklkaaGreat

/- Layer 7: Walk. -/
namespace Go.Proofs.YtjbcfjfnobklkaaGreat
set_option linter.unusedVariables false
set_option linter.unusedSimpArgs false
open Go.ChangeShapes Go.WideShapes Go.ChangeAt Go.RowKit

theorem made_ints : ∀ k : Nat, (madeCells #[Value.int .i64 0] k).toList = (List.replicate k (0 : Int)).flatMap intC := by
  intro k
  rw [toList_madeCells_one]
  induction k with
  | zero => rfl
  | succ k ih => rw [List.replicate_succ, List.replicate_succ, List.flatMap_cons, ← ih]; rfl
/-- A row of zeros. -/
theorem Ow.zeros {w0 w : World} (k : Nat) (hk : k ≤ 1000) (hB : Below w0.heap.size w0 w) : Ow (w.alloc (.cells (madeCells #[Value.int .i64 0] k) 3)) w0.heap.size 3 1 intC (List.replicate k 0) (.slice (some ⟨w.heap.size, 0, none⟩) k k) := by
  have hl : (List.replicate k (0 : Int)).length = k := by simp
  exact Ow.made (W := w) (base := w0.heap.size) (e := 3) intEnc (List.replicate k (0 : Int)) (madeCells #[Value.int .i64 0] k) (made_ints k) hB.size (by simp; unfold maxLen; omega) rfl hl
end Go.Proofs.YtjbcfjfnobklkaaGreat

/- Layer 7: Walk and Until of any configuration; Spent. -/
namespace Go.Proofs.YtjbcfjfnobklkaaGreat
set_option linter.unusedVariables false
set_option linter.unusedSimpArgs false
open Go.ChangeShapes Go.WideShapes Go.ChangeAt Go.RowKit

/-! ### Spent -/
end Go.Proofs.YtjbcfjfnobklkaaGreat

/- Layer 7: the document's own answers. -/
namespace Go.Proofs.YtjbcfjfnobklkaaGreat
set_option linter.unusedVariables false
set_option linter.unusedSimpArgs false
open Go.ChangeShapes Go.WideShapes Go.ChangeAt Go.RowKit

theorem may_of {lg th po wt sp yi : Int} (h : mayB lg th po wt sp yi = true) : (wt = 0 ∨ wt = 1 ∨ wt = 2 ∨ wt = 3) ∧ (0 ≤ sp ∧ sp ≤ 8) ∧ (0 ≤ yi ∧ yi ≤ 8) := by
  have hp := may_iff.1 h
  omega
set_option maxHeartbeats 1000000 in
theorem rwnext_any (lg th po wt sp yi : Int) (si : Bool) (n : Int) (w : World) : Calls Tryz.prog 93 #[.agg #[.int .i64 lg, .int .i64 th, .int .i64 po, .int .i64 wt, .int .i64 sp, .int .i64 yi, .bool si], .int .i64 n] w fun e w' => e = .returned (.int .i64 (wtnI lg th po wt sp yi n)) ∧ Kept w w' := by
  cases hm : mayB lg th po wt sp yi
  · have hk := wn_no (n := n) hm
    have hc := ck_no hm
    (rw [hk]; clear hk; go_enter Tryz.func93, Tryz.ntmps93; go_wp2_with (first | (go_at_call 166; refine (rccheck_any _ _ _ _ _ _ _ _).mono ?_; rintro e wx ⟨rfl, hgx⟩; obtain ⟨hcx, hfx⟩ := bcell hgx; have hz0 : w.heap.size < wx.heap.size := (by have := hgx.size; (try simp at this); omega))); (all_goals (go_ret; exact ⟨rfl, by repeat' (first | (with_reducible exact Below.refl _ _) | (with_reducible assumption) | (with_reducible refine kept_alloc ?_ _) | (with_reducible refine kept_drewN ?_ _) | (with_reducible refine Below.drew ?_) | (with_reducible refine Below.setCell ?_ (by first | omega | (simp; omega) | (simp; done)) _) | (refine kept_trans ?_ (by with_reducible assumption)))⟩)))
  · have hk := wn_yes (n := n) hm
    have hc := ck_yes hm
    obtain ⟨h0, h1, h2⟩ := may_of hm
    clear hm
    have hw : IntKind.i64.wrap (sp + yi) = sp + yi := IntWalk.i64_in _ (by omega)
    obtain rfl | rfl | rfl | rfl := h0
    · rw [show wayI 0 sp yi n = 0 from rfl] at hk
      (rw [hk]; clear hk; go_enter Tryz.func93, Tryz.ntmps93; go_wp2_with (first | (go_at_call 166; refine (rccheck_any _ _ _ _ _ _ _ _).mono ?_; rintro e wx ⟨rfl, hgx⟩; obtain ⟨hcx, hfx⟩ := bcell hgx; have hz0 : w.heap.size < wx.heap.size := (by have := hgx.size; (try simp at this); omega))); (all_goals (go_ret; exact ⟨rfl, by repeat' (first | (with_reducible exact Below.refl _ _) | (with_reducible assumption) | (with_reducible refine kept_alloc ?_ _) | (with_reducible refine kept_drewN ?_ _) | (with_reducible refine Below.drew ?_) | (with_reducible refine Below.setCell ?_ (by first | omega | (simp; omega) | (simp; done)) _) | (refine kept_trans ?_ (by with_reducible assumption)))⟩)))
    · rw [show wayI 1 sp yi n = 1 from rfl] at hk
      (rw [hk]; clear hk; go_enter Tryz.func93, Tryz.ntmps93; go_wp2_with (first | (go_at_call 166; refine (rccheck_any _ _ _ _ _ _ _ _).mono ?_; rintro e wx ⟨rfl, hgx⟩; obtain ⟨hcx, hfx⟩ := bcell hgx; have hz0 : w.heap.size < wx.heap.size := (by have := hgx.size; (try simp at this); omega))); (all_goals (go_ret; exact ⟨rfl, by repeat' (first | (with_reducible exact Below.refl _ _) | (with_reducible assumption) | (with_reducible refine kept_alloc ?_ _) | (with_reducible refine kept_drewN ?_ _) | (with_reducible refine Below.drew ?_) | (with_reducible refine Below.setCell ?_ (by first | omega | (simp; omega) | (simp; done)) _) | (refine kept_trans ?_ (by with_reducible assumption)))⟩)))
    · by_cases g1 : n < sp
      · rw [show wayI 2 sp yi n = 0 by unfold wayI; simp [g1]] at hk
        (rw [hk]; clear hk; go_enter Tryz.func93, Tryz.ntmps93; go_wp2_with (first | (go_at_call 166; refine (rccheck_any _ _ _ _ _ _ _ _).mono ?_; rintro e wx ⟨rfl, hgx⟩; obtain ⟨hcx, hfx⟩ := bcell hgx; have hz0 : w.heap.size < wx.heap.size := (by have := hgx.size; (try simp at this); omega))); (all_goals (go_ret; exact ⟨rfl, by repeat' (first | (with_reducible exact Below.refl _ _) | (with_reducible assumption) | (with_reducible refine kept_alloc ?_ _) | (with_reducible refine kept_drewN ?_ _) | (with_reducible refine Below.drew ?_) | (with_reducible refine Below.setCell ?_ (by first | omega | (simp; omega) | (simp; done)) _) | (refine kept_trans ?_ (by with_reducible assumption)))⟩)))
      · by_cases g2 : n < sp + yi
        · rw [show wayI 2 sp yi n = 1 by unfold wayI; simp [g1, g2]] at hk
          (rw [hk]; clear hk; go_enter Tryz.func93, Tryz.ntmps93; go_wp2_with (first | (go_at_call 166; refine (rccheck_any _ _ _ _ _ _ _ _).mono ?_; rintro e wx ⟨rfl, hgx⟩; obtain ⟨hcx, hfx⟩ := bcell hgx; have hz0 : w.heap.size < wx.heap.size := (by have := hgx.size; (try simp at this); omega))); (all_goals (go_ret; exact ⟨rfl, by repeat' (first | (with_reducible exact Below.refl _ _) | (with_reducible assumption) | (with_reducible refine kept_alloc ?_ _) | (with_reducible refine kept_drewN ?_ _) | (with_reducible refine Below.drew ?_) | (with_reducible refine Below.setCell ?_ (by first | omega | (simp; omega) | (simp; done)) _) | (refine kept_trans ?_ (by with_reducible assumption)))⟩)))
        · rw [show wayI 2 sp yi n = 2 by unfold wayI; simp [g1, g2]] at hk
          (rw [hk]; clear hk; go_enter Tryz.func93, Tryz.ntmps93; go_wp2_with (first | (go_at_call 166; refine (rccheck_any _ _ _ _ _ _ _ _).mono ?_; rintro e wx ⟨rfl, hgx⟩; obtain ⟨hcx, hfx⟩ := bcell hgx; have hz0 : w.heap.size < wx.heap.size := (by have := hgx.size; (try simp at this); omega))); (all_goals (go_ret; exact ⟨rfl, by repeat' (first | (with_reducible exact Below.refl _ _) | (with_reducible assumption) | (with_reducible refine kept_alloc ?_ _) | (with_reducible refine kept_drewN ?_ _) | (with_reducible refine Below.drew ?_) | (with_reducible refine Below.setCell ?_ (by first | omega | (simp; omega) | (simp; done)) _) | (refine kept_trans ?_ (by with_reducible assumption)))⟩)))
    · rw [show wayI 3 sp yi n = 2 from rfl] at hk
      (rw [hk]; clear hk; go_enter Tryz.func93, Tryz.ntmps93; go_wp2_with (first | (go_at_call 166; refine (rccheck_any _ _ _ _ _ _ _ _).mono ?_; rintro e wx ⟨rfl, hgx⟩; obtain ⟨hcx, hfx⟩ := bcell hgx; have hz0 : w.heap.size < wx.heap.size := (by have := hgx.size; (try simp at this); omega))); (all_goals (go_ret; exact ⟨rfl, by repeat' (first | (with_reducible exact Below.refl _ _) | (with_reducible assumption) | (with_reducible refine kept_alloc ?_ _) | (with_reducible refine kept_drewN ?_ _) | (with_reducible refine Below.drew ?_) | (with_reducible refine Below.setCell ?_ (by first | omega | (simp; omega) | (simp; done)) _) | (refine kept_trans ?_ (by with_reducible assumption)))⟩)))

end Go.Proofs.YtjbcfjfnobklkaaGreat

/- Layer 6: the document's own Commit, of events that may be. -/
namespace Go.Proofs.YtjbcfjfnobklkaaGreat
set_option linter.unusedVariables false
set_option linter.unusedSimpArgs false
open Go.ChangeShapes Go.WideShapes Go.ChangeAt Go.RowKit
end Go.Proofs.YtjbcfjfnobklkaaGreat

/- Layer 13: the document's own Check, Is, Value. Written by tools/fabQ.py. -/
namespace Go.Proofs.YtjbcfjfnobklkaaGreat
set_option linter.unusedVariables false
set_option linter.unusedSimpArgs false
open Go.ChangeShapes Go.WideShapes Go.ChangeAt Go.RowKit
end Go.Proofs.YtjbcfjfnobklkaaGreat

/- Contracts told by abstract values: what a step of the document's calls. -/
namespace Go.Proofs.YtjbcfjfnobklkaaGreat
set_option linter.unusedVariables false
set_option linter.unusedSimpArgs false
open Go.RowKit
theorem ac_rlcheck {l : List Int} {b : Bool} (h : okLn l = b) : AC Tryz.prog 88 [rowI l] (.bool b) := by
  intro O W vs hl hat ; obtain ⟨ys, rfl, _, _, rfl, h0, rfl⟩ := args_of hat
  obtain ⟨p, k, rfl, hs⟩ := rp_rowI.1 h0
  refine (rlcheck_any l p k W hs.s).mono ?_
  rintro e W' ⟨rfl, hk⟩
  exact ⟨_, rfl, rp_bool.2 (by rw [h]), hk⟩
theorem ac_rlat {l : List Int} {i v : Int} (h : ixI l i = v) : AC Tryz.prog 89 [rowI l, .int .i64 i] (.int .i64 v) := by
  intro O W vs hl hat ; obtain ⟨ys, rfl, _, _, rfl, h0, _, _, rfl, h1, rfl⟩ := args_of hat
  obtain ⟨p, k, rfl, hs⟩ := rp_rowI.1 h0
  rw [rp_int] at h1
  subst h1
  refine (rat_any l i p k W hs.s).mono ?_
  rintro e W' ⟨rfl, hk⟩
  exact ⟨_, rfl, rp_int.2 (by rw [h]), hk⟩
theorem ac_recheck {ep : Int} {l : List Int} {b : Bool} (h : okE ep l = b) : AC Tryz.prog 100 [evT ep l] (.bool b) := by
  intro O W vs hl hat ; obtain ⟨ys, rfl, _, _, rfl, h0, rfl⟩ := args_of hat
  obtain ⟨p, k, rfl, hs⟩ := rp_evT.1 h0
  refine (rev_check ep l p k W hs.s).mono ?_
  rintro e W' ⟨rfl, hk⟩
  exact ⟨_, rfl, rp_bool.2 (by rw [h]), hk⟩
theorem ac_rnext (c : Cf) (n : Int) : AC Tryz.prog 93 [cfT c, .int .i64 n] (.int .i64 (wtnI c.lg c.th c.po c.wt c.sp c.yi n)) := by
  intro O W vs hl hat ; obtain ⟨ys, rfl, _, _, rfl, h0, _, _, rfl, h1, rfl⟩ := args_of hat
  rw [rp_cfT] at h0
  rw [rp_int] at h1
  subst h0 h1
  refine (rwnext_any c.lg c.th c.po c.wt c.sp c.yi c.si n W).mono ?_
  rintro e W' ⟨rfl, hk⟩
  exact ⟨_, rfl, rp_int.2 rfl, hk⟩
/-! ### Lists -/
theorem app_is {α : Type} {f : α → Value} {l m r : List α} (h : r = l ++ m) (hm : l.length + m.length ≤ 1048576) : AppP r.length (r.map f) l.length (l.map f) m.length (m.map f) := ⟨by rw [h]; simp, by rw [h]; simp, hm⟩
theorem app_e {α : Type} {f : α → Value} {l : List α} (hm : l.length ≤ 1048576) : AppP l.length (l.map f) 0 [] l.length (l.map f) := ⟨by simp, by simp, by omega⟩
theorem lenIs (l : List Int) : l.length = (l.map (Value.int .i64 ·)).length := by simp
set_option maxRecDepth 100000 in
theorem ac_renter {l : List Int} {i : Int} (hok : okLn l = true) (hi : 0 ≤ i ∧ i ≤ 15) : AC Tryz.prog 36 [rowI l, .int .i64 i] (.tuple #[rowI (entL l i), .int .i64 (entE l i)]) := by
  have hn : noneB 16 i = false := by simp [noneB]; omega
  have hlen := ok_len hok
  by_cases hm : i ∈ l
  · have e : entE l i = 60 := by simp [entE, hok, hn, hm]
    rw [show entL l i = l by simp [entL, e], e]
    exact ac_path mixed (ext := [88, 89]) (fuel := 9) (n := 5) (orc := [vD true, .bool false, .bool false, .int .i64 (ixI l i), .bool true])
      (an (ac_rlcheck hok) <| an (show decide (i < 0) = false by simp; omega) <| an (show decide (15 < i) = false by simp; omega) <| an (ac_rlat (l := l) (i := i) rfl) <| an (show decide (0 ≤ ixI l i) = true by simpa using ix_nonneg.2 hm) trivial) (by kernel_rfl)
  · have e : entE l i = 0 := by simp [entE, hok, hn, hm]
    rw [ent_yes e, e]
    exact ac_path mixed (ext := [88, 89]) (fuel := 9) (n := 5) (orc := [vD true, .bool false, .bool false, .int .i64 (ixI l i), .bool false, rowI l, rowI (l ++ [i])])
      (an (ac_rlcheck hok) <| an (show decide (i < 0) = false by simp; omega) <| an (show decide (15 < i) = false by simp; omega) <| an (ac_rlat (l := l) (i := i) rfl) <| an (show decide (0 ≤ ixI l i) = false by have := fun h => hm (ix_nonneg.1 h); simpa using this) <|
        an (allK_I l) <| an (rfl : (0 : Nat) = 0) <| an (app_e (f := (Value.int .i64 ·)) (l := l) (by omega)) <| an (rfl : (1 : Nat) = 1) <| an (allK_I [i]) <| an (lenIs l) <| an (app_is (f := (Value.int .i64 ·)) (l := l) (m := [i]) rfl (by simp; omega)) <| an (len_map (f := (Value.int .i64 ·)) (l ++ [i])) trivial) (by kernel_rfl)
set_option maxRecDepth 100000 in
theorem ac_rcommit {ep : Int} {l : List Int} {q i : Int} {b : Bool} (hb : cmB ep l q i = b) (hok : okE ep l = true) (hi : 0 ≤ i ∧ i ≤ 15) : AC Tryz.prog 103 [evT ep l, .int .i64 q, .int .i64 i] (.tuple #[evT ep (cmL ep l q i), .bool b, .int .i64 (entE l i)]) := by
  subst hb
  by_cases he : entE l i = 0
  · by_cases hq : q = ep
    · have h1 : cmB ep l q i = true := by simp [cmB, hok, he, hq]
      rw [show cmL ep l q i = entL l i by unfold cmL; rw [if_pos h1, ent_yes he], h1, he]
      exact ac_path mixed (ext := [100, 36]) (fuel := 9) (n := 5) (orc := [vD true, .tuple #[rowI (entL l i), .int .i64 0], .nilFunc, .bool false])
        (an (ac_recheck hok) <| an (he ▸ ac_renter (okE_ln hok) hi) <| an (show (q != ep) = false by simp [hq]) trivial) (by kernel_rfl)
    · have h1 : cmB ep l q i = false := by simp [cmB, Ne.symm hq]
      rw [show cmL ep l q i = l by unfold cmL; rw [h1]; rfl, h1, he]
      exact ac_path mixed (ext := [100, 36]) (fuel := 9) (n := 5) (orc := [vD true, .tuple #[rowI (entL l i), .int .i64 0], .nilFunc, .bool true])
        (an (ac_recheck hok) <| an (he ▸ ac_renter (okE_ln hok) hi) <| an (show (q != ep) = true by simp [hq]) trivial) (by kernel_rfl)
  · have h1 : cmB ep l q i = false := by simp [cmB, he]
    rw [show cmL ep l q i = l by unfold cmL; rw [h1]; rfl, h1]
    exact ac_path mixed (ext := [100, 36]) (fuel := 9) (n := 5) (orc := [vD true, .tuple #[rowI (entL l i), .int .i64 (entE l i)], .bool true])
      (an (ac_recheck hok) <| an (ac_renter (okE_ln hok) hi) <| an (show (entE l i != 0) = true by simp [he]) trivial) (by kernel_rfl)
end Go.Proofs.YtjbcfjfnobklkaaGreat
