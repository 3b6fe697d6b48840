/- Texts merged: AcRQ, CcFQ, RchQ, CopBQ. -/
import Derived.Test.YtkflpaicohbppaaZa10
import Derived.Test.YtkflpaicohbppaaZa5
import Derived.SizedLaws
import Derived.Test.YtkflpaicohbppaaZa7
/- Layer 14's first law (SendTells): its walk, by contracts told by abstract values. -/
namespace Go.Proofs.Ytkflpaicohbppaa
set_option linter.unusedVariables false
set_option linter.unusedSimpArgs false
open Go.RowKit
theorem ask_bb {a b : Bool} (h : a = b) (x y : Operand) : AskP Try.prog (.binOp .eql 4 x y 4) [.bool a, .bool b] (.bool true) := by
  intro W o f ho hm
  obtain ⟨h1, h2⟩ := two_is hm
  subst h
  have hu : Try.prog.underlying 4 = some .bool := by kernel_rfl
  have : (binOp .eql 4 (.bool a) (.bool a)).run Try.prog W = .ok (.bool true) W := by
    have h := run_equalIn_bool' (P := Try.prog) W 9999 4 a a hu
    have h' : (Op.equal 4 (.bool a) (.bool a)).run Try.prog W = .ok true W := by
      unfold Op.equal Op.maxDepth
      rw [h]; simp
    simp [binOp, h']
  simp [execOp, ho, h1, h2, eqGuard, this]
section
variable {s u v : St} {i m pc : Int} {k : Nat}
end
end Go.Proofs.Ytkflpaicohbppaa

/- Layer 16: who begins to close, and what is left when it is done. -/
namespace Go.Proofs.Ytkflpaicohbppaa
set_option linter.unusedVariables false
set_option linter.unusedSimpArgs false
open Go.RowKit
/-- One that has just begun to do k. -/
def bgT (k : Int) : Th := ⟨1, k, 0, 0, 0, 0, 0, 0, false, 0, 0⟩
section
variable {s : St} {n : Nat} {k : Int} {N : Nat}
theorem cl_beg (h : stB s = true) (hn : n < s.th.length) (h0 : (gth s.th n).st = 0) (hk : k = 7 ∨ k = 8) : stBeg s n k 0 0 0 (s.setTh n (bgT k)) := by
  have hl := th_len h
  refine .inr (.inr ⟨h, ?_, n, bgT k, rfl, hn, beg_ok_u h0 (opB_iff.2 (by omega)) (by rcases hk with rfl | rfl <;> decide), rfl⟩)
  unfold opMay
  rw [if_neg (by omega), if_neg (by rw [opB_iff.2 (by omega)]; decide), if_neg (fun e => by
    have := e.2.1
    rcases hk with rfl | rfl <;> exact absurd this (by decide))]
theorem cl_begW (h : Wk s N) (hk : k = 7 ∨ k = 8) : Wk (s.setTh n (bgT k)) N :=
  ⟨th_stB h.b (by unfold bgT; rw [thB_iff]; have : bI false = 0 := rfl; omega), h.v.set ⟨(by decide : In64 0), (by decide : In64 0)⟩, h.l⟩
/-- Who begins to close is done after three steps: what is left. -/
theorem cl_done (h : Wk s N) (hn : n < s.th.length) (hk : k = 7 ∨ k = 8) (m : Nat) : ∃ u : St, closeK (s.setTh n (bgT k)) n (m + 3) = (u, 3) ∧ Wk u (N + 3) ∧ u.md = clM s.md (modeI k) ∧ u.tl = s.tl ∧ u.fl = [] ∧ u.el = [] ∧ u.fe = nxE s.fe ∧ u.ee = nxE s.ee ∧
    u.lg = s.lg ++ [⟨n, k, 0, 1, 0⟩] ∧ u.th.length = s.th.length ∧ gth u.th n = ⟨0, k, 0, 0, 0, 0, 0, 0, false, 1, 0⟩ ∧ ∀ j : Nat, j < s.th.length → ((j : Int) ∈ s.fl ∨ (j : Int) ∈ s.el) → (gth u.th j).st ≠ 2 := by
  have hw := cl_begW (n := n) (k := k) h hk
  have hg : gth (s.setTh n (bgT k)).th n = bgT k := by show gth (s.th.set n _) n = _; rw [gth_set hn, if_pos rfl]
  have hl : (s.setTh n (bgT k)).th.length = s.th.length := by show (s.th.set n _).length = _; simp
  obtain ⟨u, e, b, d1, d2, d3, d4, d5, d6, d7, -, -, -, -, -, d8, d9, d10, d11⟩ := three hw.b (n := n) (by rw [hl]; exact hn) (by rw [hg]; rfl) (by rw [hg]; rcases hk with rfl | rfl <;> rfl) (by rw [hg]; rfl) m
  rw [hg] at d1 d8 d10
  have w3 := closeK_wk n 3 hw
  have e3 : closeK (s.setTh n (bgT k)) n 3 = (u, 3) := by
    by_cases h0 : m = 0
    · subst h0; exact e
    · have := closeK_stop n 4 (s.setTh n (bgT k)) (by have := closeK_le3 (s.setTh n (bgT k)) n 4; omega) (m - 1)
      rw [show 4 + (m - 1) = m + 3 by omega, e] at this
      obtain ⟨u', e', -⟩ := three hw.b (n := n) (by rw [hl]; exact hn) (by rw [hg]; rfl) (by rw [hg]; rcases hk with rfl | rfl <;> rfl) (by rw [hg]; rfl) 0
      obtain ⟨u'', e'', -⟩ := three hw.b (n := n) (by rw [hl]; exact hn) (by rw [hg]; rfl) (by rw [hg]; rcases hk with rfl | rfl <;> rfl) (by rw [hg]; rfl) 1
      have e4 : closeK (s.setTh n (bgT k)) n (3 + 1) = (u, 3) := this.symm
      exact (closeK_more e4 e')
  rw [e3] at w3
  refine ⟨u, e, w3, d1, d3, d4, d5, d6, d7, d8, d9.trans hl, ?_, fun j hj hm => ?_⟩
  · rw [d10]; unfold tellT; rw [if_neg (by show k ≠ 9; omega)]; rfl
  · by_cases hjn : j = n
    · subst hjn; rw [d10]; show (0 : Int) ≠ 2; decide
    · rw [(d11 j (by rw [hl]; exact hj) hjn).2 hm]; exact wake_st _
end
end Go.Proofs.Ytkflpaicohbppaa

/- How long a slice that came in may be: by the bytes that a reading's reach lets it have. -/
namespace Go.Proofs.Ytkflpaicohbppaa
set_option linter.unusedVariables false
set_option linter.unusedSimpArgs false
open Go.ChangeShapes Go.WideShapes Go.ChangeAt Go.RowKit
/-- Each cell of a type: how many bytes its elements have, where it is a slice. -/
def rchOf (P : Program) : Nat → TypeId → Option (List (Option Nat))
  | 0, _ => none
  | f + 1, t =>
    match P.underlying t with
    | some .bool => some [none]
    | some (.int _) => some [none]
    | some .string => some [none]
    | some (.slice e) => some [some (P.bytesOf e)]
    | some (.struct fs) => (joinFs P (rchOf P f) fs.toList 0).bind fun l => if P.cellsOf t = l.length then some l else none
    | _ => none
def CapB (R : Nat) : Option Nat → Value → Prop
  | none, _ => True
  | some b, v => ∀ p len cap, v = .slice p len cap → cap * b ≤ R
theorem allz_append {α β : Type} {T : α → β → Prop} : ∀ {l k : List α} {vs us : List β}, AllZ T l vs → AllZ T k us → AllZ T (l ++ k) (vs ++ us)
  | [], _, _, _, h, h' => by cases h; exact h'
  | _ :: _, _, _, _, h, h' => by
    obtain ⟨v, r, rfl, hv, hr⟩ := h
    exact ⟨v, _, rfl, hv, allz_append hr h'⟩
section
variable {H : Type} {enc : TypeId × Value → H} {P : Program} {w : World} {base R : Nat} {held : Bool}
theorem caps_fields {g m : Nat} (ih : ∀ {t : TypeId} {cs : List Value} {x : DataW H × List MemPlace} {l : List (Option Nat)}, rchOf P g t = some l → DataW.trod enc P w base (fun _ => true) held m t cs = some x → (∀ n ∈ x.1.weights P t, n ≤ R) → AllZ (CapB R) l cs) :
    ∀ {fs : List Field} {o : Nat} {l : List (Option Nat)} {cs : List Value}, joinFs P (rchOf P g) fs o = some l → o + l.length ≤ cs.length →
      (∀ f ∈ fs, ∃ x, DataW.trod enc P w base (fun _ => true) held m f.type ((cs.drop f.offset).take (P.cellsOf f.type)) = some x ∧ ∀ n ∈ x.1.weights P f.type, n ≤ R) → AllZ (CapB R) l ((cs.drop o).take l.length)
  | [], o, l, cs, h, _, _ => by
    simp only [joinFs, Option.some.injEq] at h
    subst h
    show (cs.drop o).take 0 = []
    simp
  | f :: r, o, l, cs, h, hlen, hf => by
    simp only [joinFs] at h
    split at h
    · rename_i ho
      subst ho
      obtain ⟨k, hk, h⟩ := Option.bind_eq_some_iff.1 h
      split at h
      · rename_i hc
        obtain ⟨r', hr', rfl⟩ := Option.map_eq_some_iff.1 h
        obtain ⟨x, hx, hxw⟩ := hf f (by simp)
        have h1 := ih hk hx hxw
        rw [hc] at h1
        have h2 := caps_fields (fs := r) ih hr' (by simp at hlen; omega) (fun g hg => hf g (by simp [hg]))
        have := allz_append h1 h2
        rw [List.length_append, List.take_add, List.drop_drop]
        exact this
      · cases h
    · cases h
theorem caps_trod : ∀ {g fuel : Nat} {t : TypeId} {cs : List Value} {x : DataW H × List MemPlace} {l : List (Option Nat)}, rchOf P g t = some l → DataW.trod enc P w base (fun _ => true) held fuel t cs = some x → (∀ n ∈ x.1.weights P t, n ≤ R) → AllZ (CapB R) l cs
  | 0, _, _, _, _, _, h, _, _ => by simp [rchOf] at h
  | g + 1, fuel, t, cs, x, l, h, ht, hw => by
    simp only [rchOf] at h
    split at h
    · rename_i hu
      cases h
      obtain ⟨b, rfl, _⟩ := DataW.trod_bool hu ht
      exact ⟨_, _, rfl, trivial, rfl⟩
    · rename_i k hu
      cases h
      obtain ⟨q, rfl, _, _⟩ := DataW.trod_int hu ht
      exact ⟨_, _, rfl, trivial, rfl⟩
    · rename_i hu
      cases h
      obtain ⟨s, rfl, _, _⟩ := DataW.trod_string hu ht
      exact ⟨_, _, rfl, trivial, rfl⟩
    · rename_i e hu
      cases h
      rcases Deep.open_slice hu ht with ⟨rfl, rfl⟩ | ⟨a, len, cap, m, n', D, Pl, rfl, _, hl, hm, hmm, rfl, _⟩
      · exact ⟨_, _, rfl, fun p len cap hv => by cases hv; omega, rfl⟩
      · refine ⟨_, _, rfl, fun p len' cap' hv => ?_, rfl⟩
        cases hv
        have hm' : m = cap := by rw [hmm]; simp
        subst hm'
        have := hw ((((List.range len).map D).length + ((List.range (m - len)).map fun j => D (len + j)).length) * P.bytesOf e) (by simp [DataW.weights, hu])
        simp only [List.length_map, List.length_range] at this
        rwa [show len + (m - len) = m by omega] at this
    · rename_i fs hu
      obtain ⟨k, hk, h⟩ := Option.bind_eq_some_iff.1 h
      split at h
      · rename_i hc
        cases h
        obtain ⟨xs, m, _, hx, hlen, hxl, hf⟩ := DataW.trod_struct hu ht
        subst hx
        have := caps_fields (enc := enc) (w := w) (base := base) (held := held) (m := m) (R := R) (fun h h' h'' => caps_trod h h' h'') hk (cs := cs) (by omega) (fun f hfm => by
          obtain ⟨i, hi, rfl⟩ := List.getElem_of_mem hfm
          have h0 : i < fs.size := by simpa using hi
          have hi' : i < xs.length := by omega
          have := hf i fs[i] (by simp [h0])
          refine ⟨xs[i], by simpa [hxl, h0] using this, fun n hn => hw n ?_⟩
          simp only [DataW.weights, hu]
          exact DataW.weights_mem_each (j := i) (t := fs[i].type) (d := xs[i].1) (by simp [h0]) (by simp [hi']) n (by simpa using hn))
        simpa [← hc, ← hlen] using this
      · cases h
    · cases h
/-- How long the slices of a struct by value may be. -/
theorem open_reach {r : Reach} {b0 g : Nat} {t : TypeId} {fs : Array Field} {l : List (Option Nat)} {cs : List Value} {d : DataW H} {p : List MemPlace} (_hs : P.underlying t = some (.struct fs)) (hl : rchOf P g t = some l)
    (_hv : Value.okWide P w r b0 t (.agg ⟨cs⟩)) (h : DataW.Trod enc P w base (fun _ => true) held t (.agg ⟨cs⟩) d p) (hw : ∀ n ∈ d.weights P t, n ≤ R) : AllZ (CapB R) l cs := by
  obtain ⟨fuel, hf⟩ := h
  exact caps_trod hl hf hw
end
/-- A state's lists are no longer than a reading's reach lets them be. -/
structure St.rch (s : St) : Prop where
  sl : s.sl.length * 16 ≤ 140737488351232
  sn : s.sn.length * 8 ≤ 140737488351232
  rc : s.rc.length * 8 ≤ 140737488351232
  fl : s.fl.length * 8 ≤ 140737488351232
  el : s.el.length * 8 ≤ 140737488351232
  th : s.th.length * 88 ≤ 140737488351232
  lg : s.lg.length * 40 ≤ 140737488351232
def rchSt : List (Option Nat) := [none, none, none, none, none, none, none, none, none, none, some 16, some 8, some 8, none, some 8, none, some 8, none, some 88, some 40]
theorem cap_len {α : Type} {W : World} {k n c b R : Nat} {enc : α → List Value} {xs : List α} {p : Option Addr} (h : Sl W k enc xs (.slice p n c)) (hc : CapB R (some b) (.slice p n c)) : xs.length * b ≤ R := by
  obtain ⟨q, cap, hv, h1, -⟩ := h.is
  cases hv
  exact Nat.le_trans (Nat.mul_le_mul_right b h1) (hc _ _ _ rfl)
theorem St.rch_of {W : World} {s : St} {z : Pz} (h : StAt W s z) (hc : AllZ (CapB 140737488351232) rchSt (s.cells z)) : s.rch := by
  obtain ⟨_, _, e, -, _, _, rfl, -, _, _, rfl, -, _, _, rfl, -, _, _, rfl, -, _, _, rfl, -, _, _, rfl, -, _, _, rfl, -, _, _, rfl, -, _, _, rfl, -, _, _, rfl, k1, _, _, rfl, k2, _, _, rfl, k3, _, _, rfl, -, _, _, rfl, k4, _, _, rfl, -, _, _, rfl, k5, _, _, rfl, -, _, _, rfl, k6, _, _, rfl, k7, rfl⟩ := hc
  simp only [St.cells, List.cons.injEq, and_true] at e
  obtain ⟨-, -, -, -, -, -, -, -, -, -, rfl, rfl, rfl, -, rfl, -, rfl, -, rfl, rfl⟩ := e
  exact ⟨cap_len h.sl k1, cap_len h.sn k2, cap_len h.rc k3, cap_len h.fl k4, cap_len h.el k5, cap_len h.th k6, cap_len h.lg k7⟩
end Go.Proofs.Ytkflpaicohbppaa

/- Lists copied, however long a reading's reach lets them be; a thread begins, in whatever state came in. -/
namespace Go.Proofs.Ytkflpaicohbppaa
set_option linter.unusedVariables false
set_option linter.unusedSimpArgs false
open Go.ChangeShapes Go.WideShapes Go.ChangeAt Go.RowKit
theorem fcopI_big (l : List Int) (p : Option Addr) (k : Nat) (w : World) (hl : Sl w 1 intC l (.slice p l.length k)) (hm : l.length * 8 ≤ 140737488351232) : Calls Try.prog 58 #[.slice p l.length k] w (RetC 3 1 intC w l) := by
  have H := Lib.hid hl
  clear hl
  go_enter Try.func58, Try.ntmps58
  go_wp2_with ((at_builtin; refine wpList_app' (wb := w) rfl _ _ 27 rfl (.int .i64 0) 8 Try.underlying27 int_info rfl (by decide) intEnc rfl rfl (xs := []) (ys := l) owi_nil H.out (Below.refl _ _) (by simp only [List.length_append, List.length_nil, List.length_cons]; unfold maxLen; omega) (by simp only [List.length_append, List.length_nil, List.length_cons]; omega) ?_); intro v1 w1 h1 hb1)
  obtain ⟨p1, k1, rfl, -⟩ := (Ow.sl intEnc h1).is
  go_ret
  exact ⟨p1, k1, rfl, h1, hb1⟩
theorem fcopS_big (l : List Slo) (p : Option Addr) (k : Nat) (w : World) (hl : Sl w 2 Slo.cells l (.slice p l.length k)) (hm : l.length * 16 ≤ 140737488351232) : Calls Try.prog 57 #[.slice p l.length k] w (RetC 58 2 Slo.cells w l) := by
  have H := Lib.hid hl
  clear hl
  go_enter Try.func57, Try.ntmps57
  go_wp2_with ((at_builtin; refine wpList_app' (wb := w) rfl _ _ 26 rfl (.agg #[.int .i64 0, .int .i64 0]) 16 Try.underlying26 slo_info rfl (by decide) Slo.enc rfl rfl (xs := []) (ys := l) ow_nil H.out (Below.refl _ _) (by simp only [List.length_append, List.length_nil, List.length_cons]; unfold maxLen; omega) (by simp only [List.length_append, List.length_nil, List.length_cons]; omega) ?_); intro v1 w1 h1 hb1)
  obtain ⟨p1, k1, rfl, -⟩ := (Ow.sl Slo.enc h1).is
  go_ret
  exact ⟨p1, k1, rfl, h1, hb1⟩
theorem fcopT_big (l : List Th) (p : Option Addr) (k : Nat) (w : World) (hl : Sl w 11 Th.cells l (.slice p l.length k)) (hm : l.length * 88 ≤ 140737488351232) : Calls Try.prog 59 #[.slice p l.length k] w (RetC 38 11 Th.cells w l) := by
  have H := Lib.hid hl
  clear hl
  go_enter Try.func59, Try.ntmps59
  go_wp2_with ((at_builtin; refine wpList_app' (wb := w) rfl _ _ 30 rfl (.agg #[.int .i64 0, .int .i64 0, .int .i64 0, .int .i64 0, .int .i64 0, .int .i64 0, .int .i64 0, .int .i64 0, .bool false, .int .i64 0, .int .i64 0]) 88 Try.underlying30 th_info rfl (by decide) Th.enc rfl rfl (xs := []) (ys := l) ow_nil H.out (Below.refl _ _) (by simp only [List.length_append, List.length_nil, List.length_cons]; unfold maxLen; omega) (by simp only [List.length_append, List.length_nil, List.length_cons]; omega) ?_); intro v1 w1 h1 hb1)
  obtain ⟨p1, k1, rfl, -⟩ := (Ow.sl Th.enc h1).is
  go_ret
  exact ⟨p1, k1, rfl, h1, hb1⟩
theorem fcopE_big (l : List En) (p : Option Addr) (k : Nat) (w : World) (hl : Sl w 5 En.cells l (.slice p l.length k)) (hm : l.length * 40 ≤ 140737488351232) : Calls Try.prog 60 #[.slice p l.length k] w (RetC 56 5 En.cells w l) := by
  have H := Lib.hid hl
  clear hl
  go_enter Try.func60, Try.ntmps60
  go_wp2_with ((at_builtin; refine wpList_app' (wb := w) rfl _ _ 31 rfl (.agg #[.int .i64 0, .int .i64 0, .int .i64 0, .int .i64 0, .int .i64 0]) 40 Try.underlying31 en_info rfl (by decide) En.enc rfl rfl (xs := []) (ys := l) ow_nil H.out (Below.refl _ _) (by simp only [List.length_append, List.length_nil, List.length_cons]; unfold maxLen; omega) (by simp only [List.length_append, List.length_nil, List.length_cons]; omega) ?_); intro v1 w1 h1 hb1)
  obtain ⟨p1, k1, rfl, -⟩ := (Ow.sl En.enc h1).is
  go_ret
  exact ⟨p1, k1, rfl, h1, hb1⟩
theorem ac_copIB (l : List Int) (hm : l.length * 8 ≤ 140737488351232) : AC Try.prog 58 [rowI l] (rowI l) := by
  intro O W vs hl hat ; obtain ⟨ys, rfl, _, _, rfl, h0, rfl⟩ := args_of hat
  obtain ⟨p, k, rfl, hs⟩ := rp_rowI.1 h0
  refine (fcopI_big l p k W hs.s hm).mono ?_
  rintro e W' ⟨p', k', rfl, ho, hk⟩
  exact ⟨_, rfl, rp_rowI.2 ⟨p', k', rfl, (Ow.loc intEnc ho).mono (own_low hl)⟩, hk⟩
theorem ac_copSB (l : List Slo) (hm : l.length * 16 ≤ 140737488351232) : AC Try.prog 57 [rowS l] (rowS l) := by
  intro O W vs hl hat ; obtain ⟨ys, rfl, _, _, rfl, h0, rfl⟩ := args_of hat
  obtain ⟨p, k, rfl, hs⟩ := rp_rowS.1 h0
  refine (fcopS_big l p k W hs.s hm).mono ?_
  rintro e W' ⟨p', k', rfl, ho, hk⟩
  exact ⟨_, rfl, rp_rowS.2 ⟨p', k', rfl, (Ow.loc Slo.enc ho).mono (own_low hl)⟩, hk⟩
theorem ac_copTB (l : List Th) (hm : l.length * 88 ≤ 140737488351232) : AC Try.prog 59 [rowT l] (rowT l) := by
  intro O W vs hl hat ; obtain ⟨ys, rfl, _, _, rfl, h0, rfl⟩ := args_of hat
  obtain ⟨p, k, rfl, hs⟩ := rp_rowT.1 h0
  refine (fcopT_big l p k W hs.s hm).mono ?_
  rintro e W' ⟨p', k', rfl, ho, hk⟩
  exact ⟨_, rfl, rp_rowT.2 ⟨p', k', rfl, (Ow.loc Th.enc ho).mono (own_low hl)⟩, hk⟩
theorem ac_copEB (l : List En) (hm : l.length * 40 ≤ 140737488351232) : AC Try.prog 60 [rowE l] (rowE l) := by
  intro O W vs hl hat ; obtain ⟨ys, rfl, _, _, rfl, h0, rfl⟩ := args_of hat
  obtain ⟨p, k, rfl, hs⟩ := rp_rowE.1 h0
  refine (fcopE_big l p k W hs.s hm).mono ?_
  rintro e W' ⟨p', k', rfl, ho, hk⟩
  exact ⟨_, rfl, rp_rowE.2 ⟨p', k', rfl, (Ow.loc En.enc ho).mono (own_low hl)⟩, hk⟩
def bIX : List FuncId := [13, 58, 57, 60]
section
variable {s : St} {i k v u E : Int} (ho : s.ok) (hf : s.rch)
include ho hf
set_option maxRecDepth 100000 in
theorem ac_binv_1 (hA : stB s = false) : AC Try.prog 15 [stT s, .int .i64 i, .int .i64 k, .int .i64 v, .int .i64 u] (.tuple #[stT s, .int .i64 20]) :=
  ac_path mixed (ext := 59 :: bIX) (fuel := 9) (n := 5) (orc := [vD false, rowS s.sl, rowI s.sn, rowI s.rc, rowI s.fl, rowI s.el, rowT s.th, rowE s.lg])
    (an (ac_pcheck hA ho) <| an (ac_copSB s.sl hf.sl) <| an (ac_copIB s.sn hf.sn) <| an (ac_copIB s.rc hf.rc) <| an (ac_copIB s.fl hf.fl) <| an (ac_copIB s.el hf.el) <| an (ac_copTB s.th hf.th) <| an (ac_copEB s.lg hf.lg) trivial) (by kernel_rfl)
set_option maxRecDepth 100000 in
theorem ac_binv_2 (hA : stB s = true) (hE : opMay s.cf.th s.cf.si i k = E) (hE0 : E ≠ 0) : AC Try.prog 15 [stT s, .int .i64 i, .int .i64 k, .int .i64 v, .int .i64 u] (.tuple #[stT s, .int .i64 E]) :=
  ac_path mixed (ext := 59 :: 33 :: bIX) (fuel := 9) (n := 5) (orc := [vD true, .int .i64 E, .bool true, rowS s.sl, rowI s.sn, rowI s.rc, rowI s.fl, rowI s.el, rowT s.th, rowE s.lg])
    (an (ac_pcheck hA ho) <| an (ac_omay hE) <| an (show (E != 0) = true by simpa using hE0) <| an (ac_copSB s.sl hf.sl) <| an (ac_copIB s.sn hf.sn) <| an (ac_copIB s.rc hf.rc) <| an (ac_copIB s.fl hf.fl) <| an (ac_copIB s.el hf.el) <| an (ac_copTB s.th hf.th) <| an (ac_copEB s.lg hf.lg) trivial) (by kernel_rfl)
set_option maxRecDepth 100000 in
theorem ac_binv_3 {n : Nat} {t : Th} (hA : stB s = true) (hM : opMay s.cf.th s.cf.si n k = 0) (hT : thBeg (gth s.th n) k v u E t) (hn : n < s.th.length) :
    AC Try.prog 15 [stT s, .int .i64 n, .int .i64 k, .int .i64 v, .int .i64 u] (.tuple #[stT (s.setTh n t), .int .i64 E]) :=
  ac_path mixed (ext := 33 :: 34 :: bIX) (fuel := 9) (n := 5)
    (orc := [vD true, .int .i64 0, .nilFunc, thT (gth s.th n), .tuple #[thT t, .int .i64 E], rowS s.sl, rowI s.sn, rowI s.rc, rowI s.fl, rowI s.el, rowT s.th, rowE s.lg, thT (gth s.th n), rowT (s.th.set n t)])
    (an (ac_pcheck hA ho) <| an (ac_omay hM) <| an (ixT hn) <| an (ac_tbeg hT) <| an (ac_copSB s.sl hf.sl) <| an (ac_copIB s.sn hf.sn) <| an (ac_copIB s.rc hf.rc) <| an (ac_copIB s.fl hf.fl) <| an (ac_copIB s.el hf.el) <| an (allK_T s.th) <| an (app_nil (f := thT) (lt_ne hn) (by have := th_len hA; omega)) <|
      an (ac_copEB s.lg hf.lg) <| an (idT hn) <| an (elT hn) <| an (setT s.th n t) <| an (show LenP s.th.length (s.th.set n t).length ((s.th.set n t).map thT) from ⟨by simp, by simp⟩) trivial) (by kernel_rfl)
theorem ac_binvoke {r : St} (h : stBeg s i k v u E r) : AC Try.prog 15 [stT s, .int .i64 i, .int .i64 k, .int .i64 v, .int .i64 u] (.tuple #[stT r, .int .i64 E]) := by
  rcases h with ⟨hA, rfl, rfl⟩ | ⟨hA, h0, rfl, rfl⟩ | ⟨hA, h0, n, t, rfl, hn, hT, rfl⟩
  · exact ac_binv_1 ho hf hA
  · exact ac_binv_2 ho hf hA rfl h0
  · exact ac_binv_3 ho hf hA h0 hT hn
end
end Go.Proofs.Ytkflpaicohbppaa
