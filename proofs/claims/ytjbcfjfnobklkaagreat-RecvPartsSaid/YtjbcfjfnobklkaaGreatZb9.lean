/- Texts merged: AcBQ, AcCQ, EventHQ, EventIQ, EventJQ, EventKQ, AcWQ, ConfEQ, ConfAQ, WaitFQ, WaitGQ, WaitHQ, WaitIQ, AcDQ. -/
import Derived.Test.YtjbcfjfnobklkaaGreatZb8
import Derived.Test.YtjbcfjfnobklkaaGreatZb6
import Derived.Test.YtjbcfjfnobklkaaGreatZb7
import Derived.Test.YtjbcfjfnobklkaaGreatZb5
import Derived.Test.YtjbcfjfnobklkaaGreatZb3
import Derived.LoopTactic
import Derived.Lib.Hide
import Derived.Test.YtjbcfjfnobklkaaGreatZb1
import Derived.Test.YtjbcfjfnobklkaaGreatZb4
/- Contracts told by abstract values: the program's fabric: copies of its own; who is woken; what is told. -/
namespace Go.Proofs.YtjbcfjfnobklkaaGreat
set_option linter.unusedVariables false
set_option linter.unusedSimpArgs false
open Go.RowKit
theorem wk_is (t : Th) : thWake t (wakeT t) := by
  unfold thWake wakeT
  split
  · next h => exact .inl ⟨h, rfl⟩
  · next h => exact .inr ⟨h, rfl⟩
theorem ac_twake (t : Th) : AC Tryz.prog 147 [thT t] (thT (wakeT t)) := by
  intro O W vs hl hat
  obtain ⟨ys, rfl, _, _, rfl, h0, rfl⟩ := args_of hat
  rw [rp_thT] at h0
  subst h0
  refine (twake_val (wk_is t) W).mono ?_
  rintro e W' ⟨rfl, hk⟩
  exact ⟨_, rfl, rp_thT.2 rfl, hk⟩
theorem ac_pcheck {s : St} {b : Bool} (h : stB s = b) (ho : s.ok) : AC Tryz.prog 21 [stT s] (.bool b) := by
  intro O W vs hl hat
  obtain ⟨ys, rfl, _, _, rfl, h0, rfl⟩ := args_of hat
  obtain ⟨z, rfl, hs⟩ := rp_stT.1 h0
  refine (fcheck_val h z W hs.at ho).mono ?_
  rintro e W' ⟨rfl, hk⟩
  exact ⟨_, rfl, rp_bool.2 rfl, hk⟩
theorem ac_phas {s : St} {i : Int} {b : Bool} (h : hasB s i = b) (ho : s.ok) : AC Tryz.prog 145 [stT s, .int .i64 i] (.bool b) := by
  intro O W vs hl hat
  obtain ⟨ys, rfl, _, _, rfl, h0, _, _, rfl, h1, rfl⟩ := args_of hat
  obtain ⟨z, rfl, hs⟩ := rp_stT.1 h0
  rw [rp_int] at h1
  subst h1
  refine (fhas_val h z W hs.at ho).mono ?_
  rintro e W' ⟨rfl, hk⟩
  exact ⟨_, rfl, rp_bool.2 rfl, hk⟩
theorem allK_map {α : Type} {f : α → Value} {k : Nat} (h : ∀ x, (f x).cells.size = k ∧ (f x).cells.toList.all leafB = true) (l : List α) : AllK k (l.map f) := fun el hel => by
  obtain ⟨x, -, rfl⟩ := List.mem_map.1 hel
  exact h x
theorem allK_I (l : List Int) : AllK 1 (l.map (.int .i64 ·)) := allK_map (f := (Value.int .i64 ·)) (fun _ => ⟨rfl, rfl⟩) l
theorem allK_S (l : List Slo) : AllK 2 (l.map slT) := allK_map (f := slT) (fun _ => ⟨rfl, rfl⟩) l
theorem allK_T (l : List Th) : AllK 11 (l.map thT) := allK_map (f := thT) (fun _ => ⟨rfl, rfl⟩) l
theorem allK_E (l : List En) : AllK 5 (l.map enT) := allK_map (f := enT) (fun _ => ⟨rfl, rfl⟩) l
theorem app_nil {α : Type} {f : α → Value} {l : List α} (h : l ≠ []) (hm : l.length ≤ 1000000) : 0 < l.length ∧ AppP l.length (l.map f) 0 [] l.length (l.map f) :=
  ⟨List.length_pos_iff.2 h, by simp, by simp, by omega⟩
theorem len_map {α : Type} {f : α → Value} (l : List α) : LenP l.length l.length (l.map f) := ⟨by simp, by simp⟩
set_option maxRecDepth 100000 in
theorem ac_copI (l : List Int) (hm : l.length ≤ 1000000) : AC Tryz.prog 122 [rowI l] (rowI l) := by
  by_cases h : l = []
  · subst h
    exact ac_path mixed (ext := []) (fuel := 9) (n := 3) (orc := [.slice none 0 0]) (And.intro (allK_I []) (And.intro (rfl : (0 : Nat) = 0) trivial)) (by kernel_rfl)
  · exact ac_path mixed (ext := []) (fuel := 9) (n := 3) (orc := [rowI l]) (And.intro (allK_I l) (And.intro (app_nil (f := (Value.int .i64 ·)) h hm) (And.intro (len_map (f := (Value.int .i64 ·)) l) trivial))) (by kernel_rfl)
set_option maxRecDepth 100000 in
theorem ac_copS (l : List Slo) (hm : l.length ≤ 1000000) : AC Tryz.prog 121 [rowS l] (rowS l) := by
  by_cases h : l = []
  · subst h
    exact ac_path mixed (ext := []) (fuel := 9) (n := 3) (orc := [.slice none 0 0]) (And.intro (allK_S []) (And.intro (rfl : (0 : Nat) = 0) trivial)) (by kernel_rfl)
  · exact ac_path mixed (ext := []) (fuel := 9) (n := 3) (orc := [rowS l]) (And.intro (allK_S l) (And.intro (app_nil (f := slT) h hm) (And.intro (len_map (f := slT) l) trivial))) (by kernel_rfl)
set_option maxRecDepth 100000 in
theorem ac_copT (l : List Th) (hm : l.length ≤ 1000000) : AC Tryz.prog 123 [rowT l] (rowT l) := by
  by_cases h : l = []
  · subst h
    exact ac_path mixed (ext := []) (fuel := 9) (n := 3) (orc := [.slice none 0 0]) (And.intro (allK_T []) (And.intro (rfl : (0 : Nat) = 0) trivial)) (by kernel_rfl)
  · exact ac_path mixed (ext := []) (fuel := 9) (n := 3) (orc := [rowT l]) (And.intro (allK_T l) (And.intro (app_nil (f := thT) h hm) (And.intro (len_map (f := thT) l) trivial))) (by kernel_rfl)
set_option maxRecDepth 100000 in
theorem ac_copE (l : List En) (hm : l.length ≤ 1000000) : AC Tryz.prog 124 [rowE l] (rowE l) := by
  by_cases h : l = []
  · subst h
    exact ac_path mixed (ext := []) (fuel := 9) (n := 3) (orc := [.slice none 0 0]) (And.intro (allK_E []) (And.intro (rfl : (0 : Nat) = 0) trivial)) (by kernel_rfl)
  · exact ac_path mixed (ext := []) (fuel := 9) (n := 3) (orc := [rowE l]) (And.intro (allK_E l) (And.intro (app_nil (f := enT) h hm) (And.intro (len_map (f := enT) l) trivial))) (by kernel_rfl)
end Go.Proofs.YtjbcfjfnobklkaaGreat

/- Contracts told by abstract values: the program's fabric, its threads its caller's own: Wake, Tell. -/
namespace Go.Proofs.YtjbcfjfnobklkaaGreat
set_option linter.unusedVariables false
set_option linter.unusedSimpArgs false
open Go.RowKit
def stL (s : St) : Array Value := #[.int .i64 s.cf.lg, .int .i64 s.cf.th, .int .i64 s.cf.po, .int .i64 s.cf.wt, .int .i64 s.cf.sp, .int .i64 s.cf.yi, .bool s.cf.si, .int .i64 s.hd, .int .i64 s.tl, .int .i64 s.md, rowS s.sl, rowI s.sn, rowI s.rc, .int .i64 s.fe, rowI s.fl, .int .i64 s.ee, rowI s.el, .int .i64 s.nw, rowT s.th, rowE s.lg]
def rsT (t : Th) (r : Int) : Th := ⟨t.st, t.ki, t.va, t.un, t.pc, t.re, t.se, t.tr, t.la, r, t.go⟩
def rgT (t : Th) (r g : Int) : Th := ⟨t.st, t.ki, t.va, t.un, t.pc, t.re, t.se, t.tr, t.la, r, g⟩
/-- Its lists are not too long. -/
structure St.fit (s : St) : Prop where
  sl : s.sl.length ≤ 1000000
  sn : s.sn.length ≤ 1000000
  rc : s.rc.length ≤ 1000000
  fl : s.fl.length ≤ 1000000
  el : s.el.length ≤ 1000000
  th : s.th.length ≤ 1000000
  lg : s.lg.length ≤ 1000000
theorem idT {n : Nat} {l : List Th} (h : n < l.length) : 0 ≤ (n : Int) ∧ (n : Int).toNat < l.length := ⟨by omega, by simpa using h⟩
theorem elT {n : Nat} {l : List Th} (h : n < l.length) : ElP (l.map thT) (0 + (n : Int).toNat) (thT (gth l n)) := by simp [ElP, gth_eq h, h]
theorem setT (l : List Th) (n : Nat) (t : Th) : (l.set n t).map thT = (l.map thT).set (0 + (n : Int).toNat) (thT t) := by simp [List.map_set]
theorem el2 {n : Nat} {l : List Th} (h : n < l.length) (t : Th) : ElP ((l.set n t).map thT) (0 + (n : Int).toNat) (thT t) := by simp [ElP, h]
theorem set2 (l : List Th) (n : Nat) (t u : Th) : (l.set n u).map thT = ((l.set n t).map thT).set (0 + (n : Int).toNat) (thT u) := by simp [List.map_set]
theorem lenE (l : List En) : l.length = (l.map enT).length := by simp
theorem lenT (l : List Th) : l.length = l.length ∧ l.length = (l.map thT).length := ⟨rfl, by simp⟩
theorem lenTs (l : List Th) (n : Nat) (t : Th) : l.length = (l.set n t).length ∧ l.length = ((l.set n t).map thT).length := ⟨by simp, by simp⟩
theorem has_lt {s : St} {n : Nat} (h : hasB s n = true) : n < s.th.length := by have := (has_iff.1 h).2.2; omega
theorem lt_ne {l : List Th} {n : Nat} (h : n < l.length) : l ≠ [] := by rintro rfl; simp at h
set_option maxRecDepth 100000 in
/-- Nobody is woken: all is as it was, its threads in memory of the caller's own. -/
theorem ao_keep {s : St} {i : Int} (hA : hasB s i = false) (ho : s.ok) (hf : s.fit) (ht : s.th ≠ []) : AO Tryz.prog 70 [stT s, .int .i64 i] (stL s) 18 11 :=
  ao_path mixed (ext := [145, 122, 121, 124]) (fuel := 9) (n := 5) (pos := 18) (orc := [vD false, rowS s.sl, rowI s.sn, rowI s.rc, rowI s.fl, rowI s.el, rowT s.th, rowE s.lg])
    (And.intro (ac_phas hA ho) (And.intro (ac_copS s.sl hf.sl) (And.intro (ac_copI s.sn hf.sn) (And.intro (ac_copI s.rc hf.rc) (And.intro (ac_copI s.fl hf.fl) (And.intro (ac_copI s.el hf.el)
      (And.intro (allK_T s.th) (And.intro (app_nil (f := thT) ht hf.th) (And.intro (ac_copE s.lg hf.lg) (And.intro (lenT s.th) trivial)))))))))) (by kernel_rfl)
set_option maxRecDepth 100000 in
theorem ao_wake {s : St} {n : Nat} (hA : hasB s n = true) (ho : s.ok) (hf : s.fit) : AO Tryz.prog 70 [stT s, .int .i64 n] (stL (s.onTh n wakeT)) 18 11 :=
  ao_path mixed (ext := [145, 122, 121, 124, 147]) (fuel := 9) (n := 5) (pos := 18)
    (orc := [vD true, rowS s.sl, rowI s.sn, rowI s.rc, rowI s.fl, rowI s.el, rowT s.th, rowE s.lg, thT (gth s.th n), thT (wakeT (gth s.th n)), thT (gth s.th n), rowT (s.th.set n (wakeT (gth s.th n)))])
    (And.intro (ac_phas hA ho) (And.intro (ac_copS s.sl hf.sl) (And.intro (ac_copI s.sn hf.sn) (And.intro (ac_copI s.rc hf.rc) (And.intro (ac_copI s.fl hf.fl) (And.intro (ac_copI s.el hf.el)
      (And.intro (allK_T s.th) (And.intro (app_nil (f := thT) (lt_ne (has_lt hA)) hf.th) (And.intro (ac_copE s.lg hf.lg) (And.intro (idT (has_lt hA)) (And.intro (elT (has_lt hA)) (And.intro (ac_twake (gth s.th n)) (And.intro (elT (has_lt hA))
        (And.intro (setT s.th n (wakeT (gth s.th n))) (And.intro (lenTs s.th n (wakeT (gth s.th n))) trivial))))))))))))))) (by kernel_rfl)
theorem an {a b : Prop} (h : a) (k : b) : a ∧ b := ⟨h, k⟩
theorem app_one {α : Type} {f : α → Value} (l : List α) (x : α) (hm : l.length ≤ 1000000) : AppP (l ++ [x]).length ((l ++ [x]).map f) l.length (l.map f) 1 [f x] := ⟨by simp, by simp, by omega⟩
theorem app_fst {α : Type} {f : α → Value} (x : α) : 0 < 1 ∧ AppP ([] ++ [x]).length (([] ++ [x]).map f) 0 [] 1 [f x] := ⟨by omega, by simp, by simp, by omega⟩
theorem ixT {n : Nat} {l : List Th} (h : n < l.length) : IxP ((l.map thT).toArray) (n : Int) (thT (gth l n)) := rowT_el h
theorem allK_1 (x : En) : AllK 5 [enT x] := allK_E [x]
def tlE (s : St) (n : Nat) (k r g : Int) : En := ⟨n, k, (gth s.th n).va, r, g⟩
theorem lenA (l : List En) (x : En) : LenP (l ++ [x]).length (l ++ [x]).length ((l ++ [x]).map enT) := len_map (f := enT) (l ++ [x])
set_option maxRecDepth 100000 in
theorem ao_tell {s : St} {n : Nat} {k r g : Int} (hA : hasB s n = true) (hk : (k != 9) = true) (ho : s.ok) (hf : s.fit) : AO Tryz.prog 200 [stT s, .int .i64 n, .int .i64 k, .int .i64 r, .int .i64 g] (stL ((s.setTh n (rgT (gth s.th n) r g)).addLg (tlE s n k r g))) 18 11 := by
  have hn := has_lt hA
  by_cases hl : s.lg = []
  · rw [show (s.setTh n (rgT (gth s.th n) r g)).addLg (tlE s n k r g) = ⟨s.cf, s.hd, s.tl, s.md, s.sl, s.sn, s.rc, s.fe, s.fl, s.ee, s.el, s.nw, s.th.set n (rgT (gth s.th n) r g), [] ++ [tlE s n k r g]⟩ by unfold St.addLg St.setTh; rw [hl]]
    refine ao_path mixed (ext := [145, 122, 121]) (fuel := 9) (n := 5) (pos := 18)
      (orc := [vD true, rowS s.sl, rowI s.sn, rowI s.rc, rowI s.fl, rowI s.el, rowT s.th, .slice none 0 0, .bool true, thT (gth s.th n), rowT (s.th.set n (rsT (gth s.th n) r)), thT (rsT (gth s.th n) r), rowT (s.th.set n (rgT (gth s.th n) r g)), thT (gth s.th n), rowE ([] ++ [tlE s n k r g])])
      (an (ac_phas hA ho) <| an (ac_copS s.sl hf.sl) <| an (ac_copI s.sn hf.sn) <| an (ac_copI s.rc hf.rc) <| an (ac_copI s.fl hf.fl) <| an (ac_copI s.el hf.el) <| an (allK_T s.th) <| an (app_nil (f := thT) (lt_ne hn) hf.th) <|
        an (allK_E s.lg) <| an (show s.lg.length = 0 by rw [hl]; rfl) <| an (idT hn) <| an hk <| an (elT hn) <| an (setT s.th n (rsT (gth s.th n) r)) <| an (el2 hn (rsT (gth s.th n) r)) <| an (set2 s.th n (rsT (gth s.th n) r) (rgT (gth s.th n) r g)) <| an (ixT hn) <| an (rfl : (1 : Nat) = 1) <| an (allK_1 (tlE s n k r g)) <| an (app_fst (f := enT) (tlE s n k r g)) <|
        an (lenTs s.th n (rgT (gth s.th n) r g)) <| an (lenA [] (tlE s n k r g)) trivial) (by kernel_rfl)
  · refine ao_path mixed (ext := [145, 122, 121]) (fuel := 9) (n := 5) (pos := 18)
      (orc := [vD true, rowS s.sl, rowI s.sn, rowI s.rc, rowI s.fl, rowI s.el, rowT s.th, rowE s.lg, .bool true, thT (gth s.th n), rowT (s.th.set n (rsT (gth s.th n) r)), thT (rsT (gth s.th n) r), rowT (s.th.set n (rgT (gth s.th n) r g)), thT (gth s.th n), rowE (s.lg ++ [tlE s n k r g])])
      (an (ac_phas hA ho) <| an (ac_copS s.sl hf.sl) <| an (ac_copI s.sn hf.sn) <| an (ac_copI s.rc hf.rc) <| an (ac_copI s.fl hf.fl) <| an (ac_copI s.el hf.el) <| an (allK_T s.th) <| an (app_nil (f := thT) (lt_ne hn) hf.th) <|
        an (allK_E s.lg) <| an (app_nil (f := enT) hl hf.lg) <| an (idT hn) <| an hk <| an (elT hn) <| an (setT s.th n (rsT (gth s.th n) r)) <| an (el2 hn (rsT (gth s.th n) r)) <| an (set2 s.th n (rsT (gth s.th n) r) (rgT (gth s.th n) r g)) <| an (ixT hn) <| an (rfl : (1 : Nat) = 1) <| an (allK_1 (tlE s n k r g)) <| an (lenE s.lg) <| an (app_one (f := enT) s.lg (tlE s n k r g) hf.lg) <|
        an (lenTs s.th n (rgT (gth s.th n) r g)) <| an (lenA s.lg (tlE s n k r g)) trivial) (by kernel_rfl)
set_option maxRecDepth 100000 in
theorem ao_tell9 {s : St} {n : Nat} {r g : Int} (hA : hasB s n = true) (ho : s.ok) (hf : s.fit) : AO Tryz.prog 200 [stT s, .int .i64 n, .int .i64 9, .int .i64 r, .int .i64 g] (stL (s.addLg (tlE s n 9 r g))) 18 11 := by
  have hn := has_lt hA
  by_cases hl : s.lg = []
  · rw [show s.addLg (tlE s n 9 r g) = ⟨s.cf, s.hd, s.tl, s.md, s.sl, s.sn, s.rc, s.fe, s.fl, s.ee, s.el, s.nw, s.th, [] ++ [tlE s n 9 r g]⟩ by unfold St.addLg; rw [hl]]
    refine ao_path mixed (ext := [145, 122, 121]) (fuel := 9) (n := 5) (pos := 18)
      (orc := [vD true, rowS s.sl, rowI s.sn, rowI s.rc, rowI s.fl, rowI s.el, rowT s.th, .slice none 0 0, .nilFunc, thT (gth s.th n), rowE ([] ++ [tlE s n 9 r g])])
      (an (ac_phas hA ho) <| an (ac_copS s.sl hf.sl) <| an (ac_copI s.sn hf.sn) <| an (ac_copI s.rc hf.rc) <| an (ac_copI s.fl hf.fl) <| an (ac_copI s.el hf.el) <| an (allK_T s.th) <| an (app_nil (f := thT) (lt_ne hn) hf.th) <|
        an (allK_E s.lg) <| an (show s.lg.length = 0 by rw [hl]; rfl) <| an (idT hn) <| an (ixT hn) <| an (rfl : (1 : Nat) = 1) <| an (allK_1 (tlE s n 9 r g)) <| an (app_fst (f := enT) (tlE s n 9 r g)) <|
        an (lenT s.th) <| an (lenA [] (tlE s n 9 r g)) trivial) (by kernel_rfl)
  · refine ao_path mixed (ext := [145, 122, 121]) (fuel := 9) (n := 5) (pos := 18)
      (orc := [vD true, rowS s.sl, rowI s.sn, rowI s.rc, rowI s.fl, rowI s.el, rowT s.th, rowE s.lg, .nilFunc, thT (gth s.th n), rowE (s.lg ++ [tlE s n 9 r g])])
      (an (ac_phas hA ho) <| an (ac_copS s.sl hf.sl) <| an (ac_copI s.sn hf.sn) <| an (ac_copI s.rc hf.rc) <| an (ac_copI s.fl hf.fl) <| an (ac_copI s.el hf.el) <| an (allK_T s.th) <| an (app_nil (f := thT) (lt_ne hn) hf.th) <|
        an (allK_E s.lg) <| an (app_nil (f := enT) hl hf.lg) <| an (idT hn) <| an (ixT hn) <| an (rfl : (1 : Nat) = 1) <| an (allK_1 (tlE s n 9 r g)) <| an (lenE s.lg) <| an (app_one (f := enT) s.lg (tlE s n 9 r g) hf.lg) <|
        an (lenT s.th) <| an (lenA s.lg (tlE s n 9 r g)) trivial) (by kernel_rfl)
set_option maxRecDepth 100000 in
/-- What a state's lists are copied into: whoever is not there is not woken. -/
theorem ac_keep {s : St} {i : Int} (hA : hasB s i = false) (ho : s.ok) (hf : s.fit) : AC Tryz.prog 70 [stT s, .int .i64 i] (stT s) :=
  ac_path mixed (ext := [145, 122, 121, 124, 123]) (fuel := 9) (n := 5) (orc := [vD false, rowS s.sl, rowI s.sn, rowI s.rc, rowI s.fl, rowI s.el, rowT s.th, rowE s.lg])
    (an (ac_phas hA ho) <| an (ac_copS s.sl hf.sl) <| an (ac_copI s.sn hf.sn) <| an (ac_copI s.rc hf.rc) <| an (ac_copI s.fl hf.fl) <| an (ac_copI s.el hf.el) <| an (ac_copT s.th hf.th) <| an (ac_copE s.lg hf.lg) trivial) (by kernel_rfl)
end Go.Proofs.YtjbcfjfnobklkaaGreat

/- Layer 6: who is first is taken out of a block that holds a line; and so on, as long as a closure says. -/
namespace Go.Proofs.YtjbcfjfnobklkaaGreat
set_option linter.unusedVariables false
set_option linter.unusedSimpArgs false
open Go.ChangeShapes Go.WideShapes Go.ChangeAt Go.RowKit

theorem lnext_oval {l r : List Int} {x : Int} {b : Bool} (hx : nxI l = x) (hr : nxL l = r) (hb : nxB l = b) (p : Option Addr) (k : Nat) (w : World) (hl : Sl w 1 intC l (.slice p l.length k)) (hm : l.length ≤ 999999) :
    Calls Tryz.prog 250 #[.slice p l.length k] w (RetNO w x r b) := hx ▸ hr ▸ hb ▸ lnext_own l p k w hl hm
/-- A store of something into a cell that holds no integer leaves lists of integers as they were. -/
theorem Sl.setCell {W : World} {l : List Int} {v u : Value} {a : Addr} (h : Sl W 1 intC l v) (ha : ∀ x, W.cell? a ≠ some (.int .i64 x)) : Sl (W.setCell a u) 1 intC l v := by
  obtain ⟨p, cap, hv, h1, h2, h3, h4⟩ := h.is
  refine ⟨p, cap, hv, h1, h2, h3, fun hne => ?_⟩
  obtain ⟨b, o, hp, hb, hc⟩ := h4 hne
  refine ⟨b, o, hp, by simpa using hb, fun i x hx j hj => ?_⟩
  have hcx := hc i x hx j hj
  have hj0 : j = 0 := by omega
  subst hj0
  rw [World.cell?_setCell_other]
  · exact hcx
  · intro e
    subst e
    exact ha x (by simpa [intC] using hcx)

/-- What the method that takes the first one out leaves. -/
def RetNx (w : World) (wb : Nat) (x : Int) (r : List Int) (b : Bool) (e : Ending) (w' : World) : Prop :=
  ∃ (p : Option Addr) (k : Nat) (w1 : World), e = .returned (.tuple #[.int .i64 x, .bool b]) ∧ Ow w1 w.heap.size 3 1 intC r (.slice p r.length k) ∧ Kept w w1 ∧ w' = w1.setCell ⟨wb, 0, none⟩ (.slice p r.length k)
set_option maxHeartbeats 1000000 in
theorem enext_any {l r : List Int} {x : Int} {b : Bool} (hx : nxI l = x) (hr : nxL l = r) (hb : nxB l = b) (wb : Nat) (p : Option Addr) (k : Nat) (w : World) (hz : wb < w.heap.size) (hc : w.cell? ⟨wb, 0, none⟩ = some (.slice p l.length k)) (hf : w.frozen? ⟨wb, 0, none⟩ = false)
    (hl : Sl w 1 intC l (.slice p l.length k)) (hm : l.length ≤ 999999) :
    Calls Tryz.prog 240 #[.pointer (some ⟨wb, 0, none⟩)] w (RetNx w wb x r b) := by
  have H := Lib.hid hl
  have HV := Lib.hid (And.intro hx (And.intro hr hb))
  clear hl hx hr hb
  go_enter Tryz.func240, Tryz.ntmps240
  go_wp2_with fail
  refine (lnext_oval HV.out.1 HV.out.2.1 HV.out.2.2 p k _ (H.out.kept (by repeat' (first | (with_reducible exact Below.refl _ _) | (with_reducible assumption) | (with_reducible refine kept_alloc ?_ _) | (with_reducible refine kept_drewN ?_ _) | (with_reducible refine Below.drew ?_) | (with_reducible refine Below.setCell ?_ (by first | omega | (simp; omega) | (simp; done)) _) | (refine kept_trans ?_ (by with_reducible assumption))))) hm).mono ?_
  rintro e w1 ⟨p1, k1, rfl, hS1, hg1⟩
  have c1 := ((bcell hg1).1 wb 0 hz).trans hc
  have f1 := ((bcell hg1).2 wb 0 hz).trans hf
  have hz1 : wb < w1.heap.size := Nat.lt_of_lt_of_le hz hg1.size
  have HS1 := Lib.hid hS1
  clear hS1
  go_wp2
  go_ret2
  exact ⟨p1, k1, w1, rfl, HS1.out, hg1, rfl⟩

/-- Rows of a call's own, one older than the other, lie apart. -/
theorem ow_apart {α β : Type} {W W2 : World} {base k k' : Nat} {e e' : TypeId} {enc : α → List Value} {enc' : β → List Value} {xs : List α} {ys : List β} {u v : Value} (h1 : Ow W base e k enc xs v) (h2 : Ow W2 W.heap.size e' k' enc' ys u) {g : Nat} (hg1 : u.ownBlock = some g) : v.ownBlock ≠ some g := by
  intro hg2
  have := (h1.lt g hg2).2
  have := (h2.lt g hg1).1
  omega
def lenOf : Value → Nat
  | .slice _ n _ => n
  | _ => 0
/-- What stands at the head of a round: who was told, and who still waits. -/
structure Tk (b0 : Nat) (w : World) (wb : Nat) (l : List Int) (j : Nat) (pt p2 : Option Addr) (kt k2 : Nat) (wr : World) : Prop where
  told : Ow wr w.heap.size 3 1 intC (l.take j) (.slice pt j kt)
  rest : Ow wr b0 3 1 intC (l.drop j) (.slice p2 (l.length - j) k2)
  cell : wr.cell? ⟨wb, 0, none⟩ = some (.slice p2 (l.length - j) k2)
  froz : wr.frozen? ⟨wb, 0, none⟩ = false
  below : Below wb w wr
  size : w.heap.size ≤ wr.heap.size
theorem Tk.kept {b0 : Nat} {w : World} {wb : Nat} {l : List Int} {j : Nat} {pt p2 : Option Addr} {kt k2 : Nat} {wr wr' : World} (h : Tk b0 w wb l j pt p2 kt k2 wr) (hz : wb < w.heap.size) (hk : Kept wr wr') : Tk b0 w wb l j pt p2 kt k2 wr' :=
  ⟨h.told.kept hk, h.rest.kept hk, ((bcell hk).1 _ _ (Nat.lt_of_lt_of_le hz h.size)).trans h.cell, ((bcell hk).2 _ _ (Nat.lt_of_lt_of_le hz h.size)).trans h.froz, h.below.trans (hk.mono (Nat.le_trans (Nat.le_of_lt hz) h.size)), Nat.le_trans h.size hk.size⟩
/-- One more was taken out: the world behind the store. -/
theorem Tk.next {b0 : Nat} {w : World} {wb : Nat} {l : List Int} {j : Nat} {pt p2 : Option Addr} {kt k2 : Nat} {w1 : World} (h : Tk b0 w wb l j pt p2 kt k2 w1) (hz : wb < w.heap.size) {w2 : World} (hg : Kept w1 w2) {r : List Int} {p3 : Option Addr} {k3 : Nat} (hO : Ow w2 w1.heap.size 3 1 intC r (.slice p3 r.length k3)) :
    Ow (w2.setCell ⟨wb, 0, none⟩ (.slice p3 r.length k3)) w.heap.size 3 1 intC (l.take j) (.slice pt j kt) ∧ Ow (w2.setCell ⟨wb, 0, none⟩ (.slice p3 r.length k3)) w1.heap.size 3 1 intC r (.slice p3 r.length k3) ∧
    (w2.setCell ⟨wb, 0, none⟩ (.slice p3 r.length k3)).cell? ⟨wb, 0, none⟩ = some (.slice p3 r.length k3) ∧ (w2.setCell ⟨wb, 0, none⟩ (.slice p3 r.length k3)).frozen? ⟨wb, 0, none⟩ = false ∧ Below wb w (w2.setCell ⟨wb, 0, none⟩ (.slice p3 r.length k3)) ∧ w.heap.size ≤ (w2.setCell ⟨wb, 0, none⟩ (.slice p3 r.length k3)).heap.size := by
  have h2 := h.kept hz hg
  have hz1 : wb < w1.heap.size := Nat.lt_of_lt_of_le hz h.size
  refine ⟨h2.told.setCell (p := ⟨wb, 0, none⟩) hz _, hO.setCell (p := ⟨wb, 0, none⟩) hz1 _, World.cell?_setCell_same' _ _ _ (by rw [h2.cell]; rfl), ?_, h2.below.setCell (p := ⟨wb, 0, none⟩) (Nat.le_refl _) _, by simpa using h2.size⟩
  rw [World.frozen?_setCell]; exact h2.froz
/-- .. and told. -/
theorem Tk.app {b0 : Nat} {w : World} {wb : Nat} {l : List Int} {j : Nat} {pt p2 : Option Addr} {kt k2 : Nat} {w1 : World} (h : Tk b0 w wb l j pt p2 kt k2 w1) (hz : wb < w.heap.size) (hb0 : b0 ≤ w.heap.size) (hj : j < l.length) {V w6 : World} {o : Obj} {p3 : Option Addr} {k3 : Nat} {y : Int} (hy : l[j] = y) {v6 : Value}
    (hV : Ow V w1.heap.size 3 1 intC (l.drop (j + 1)) (.slice p3 (l.drop (j + 1)).length k3)) (hc : V.cell? ⟨wb, 0, none⟩ = some (.slice p3 (l.drop (j + 1)).length k3)) (hf : V.frozen? ⟨wb, 0, none⟩ = false) (hB : Below wb w V) (hs : w.heap.size ≤ V.heap.size)
    (h6 : Ow w6 w.heap.size 3 1 intC (l.take j ++ [y]) v6) (hgr : (V.alloc o).grownBy w6 (Value.slice pt j kt).ownBlock) : ∃ p6 k6, v6 = .slice p6 (j + 1) k6 ∧ Tk b0 w wb l (j + 1) p6 p3 k6 k3 w6 := by
  subst hy
  rw [← List.take_succ_eq_append_getElem hj] at h6
  obtain ⟨p6, k6, rfl, -⟩ := (Ow.sl intEnc h6).is
  have hlen : (l.take (j + 1)).length = j + 1 := by simp; omega
  have hdr : (l.drop (j + 1)).length = l.length - (j + 1) := by simp
  have hA : Below (wb + 1) V (V.alloc o) := (Below.refl _ _).alloc (by omega) o
  have hsa : V.heap.size ≤ (V.alloc o).heap.size := by simp
  have hAg : Below (wb + 1) V w6 := hA.grown hgr (by omega) (fun i e => by have := (h.told.lt i e).1; omega)
  have hr : Ow w6 w1.heap.size 3 1 intC (l.drop (j + 1)) (.slice p3 (l.drop (j + 1)).length k3) := Ow.grown (hV.kept ((Below.refl _ _).alloc (Nat.le_refl _) o)) hgr (fun g hg => ow_apart h.told hV hg)
  rw [hlen] at h6
  refine ⟨p6, k6, by rw [hlen], h6, ?_, ?_, ?_, ?_, Nat.le_trans hs hAg.size⟩
  · rw [← hdr]; exact Ow.mono hr (Nat.le_trans hb0 h.size)
  · rw [← hdr]; exact (hAg.cell (p := ⟨wb, 0, none⟩) (Nat.lt_succ_self _)).trans hc
  · exact (hAg.frozen (p := ⟨wb, 0, none⟩) (Nat.lt_succ_self _)).trans hf
  · exact hB.trans (hAg.mono (Nat.le_succ _))
/-- What the loop leaves. -/
def RetTk (b0 : Nat) (w : World) (wb m : Nat) (l : List Int) (e : Ending) (w' : World) : Prop :=
  ∃ (pt p2 : Option Addr) (kt k2 : Nat), e = .returned (.slice pt (l.take m).length kt) ∧ Ow w' w.heap.size 3 1 intC (l.take m) (.slice pt (l.take m).length kt) ∧ Ow w' b0 3 1 intC (l.drop m) (.slice p2 (l.drop m).length k2) ∧ w'.cell? ⟨wb, 0, none⟩ = some (.slice p2 (l.drop m).length k2) ∧ Below wb w w'
set_option maxHeartbeats 4000000 in
theorem etaken_any (b0 : Nat) (l : List Int) (m wb : Nat) (p : Option Addr) (k : Nat) (w w0 : World) (lb : Array Value) (hz : wb < w.heap.size) (hc : w.cell? ⟨wb, 0, none⟩ = some (.slice p l.length k)) (hf : w.frozen? ⟨wb, 0, none⟩ = false)
    (hl : Ow w b0 3 1 intC l (.slice p l.length k)) (hb0 : b0 ≤ w.heap.size) (hok : okLn l = true) (hm : l.length ≤ 999999) (hmm : m ≤ 999999) (hT : Tells 241 lb (fun x => decide (x < (m : Int))) w0) (h0 : Below w0.heap.size w0 w) (h0z : w0.heap.size ≤ wb) :
    Calls Tryz.prog 239 #[.func (.func 240) #[.pointer (some ⟨wb, 0, none⟩)] #[], .func (.func 241) #[] lb] w (RetTk b0 w wb m l) := by
  have HT := Lib.hid hT
  have HO := Lib.hid hok
  have HK : Hid (Tk b0 w wb l 0 none p 0 k w) := Lib.hid ⟨owi_nil, hl, hc, hf, Below.refl _ _, Nat.le_refl _⟩
  clear hT hok hl hc hf
  obtain ⟨N, hN⟩ : ∃ N, l.length = N := ⟨_, rfl⟩
  have HN := Lib.hid hN
  rw [hN] at hm
  clear hN
  go_enter Tryz.func239, Tryz.ntmps239
  go_wp2
  go_loopw [5, 6, 7] (fun s5 _ _ wr => ∃ (j : Nat) (pt p2 : Option Addr) (kt k2 : Nat), s5 = .slice pt j kt ∧ j ≤ N ∧ j ≤ m ∧ Hid (Tk b0 w wb l j pt p2 kt k2 wr)) (fun s5 _ _ _ => N - lenOf s5)
  case atStart => exact ⟨0, none, p, 0, k, rfl, by omega, by omega, HK⟩
  case round =>
    obtain ⟨j, pt, p2, kt, k2, rfl, hj, hjm, HR⟩ := hrel
    have hBm : Below w0.heap.size w0 wr := h0.trans (HR.out.below.mono h0z)
    by_cases hjm' : j < m
    · have hT1 : Calls Tryz.prog 241 (#[.int .i64 j] ++ lb) wr fun e w' => e = .returned (.bool true) ∧ Kept wr w' := (HT.out wr j hBm).mono fun e w' h => ⟨h.1.trans (ret_bool (by simp; omega)), h.2⟩
      have HT1 := Lib.hid hT1
      clear hT1
      go_wp2_with fail
      refine HT1.out.mono ?_
      rintro e w1 ⟨rfl, hg1⟩
      have HK1 := Lib.hid (HR.out.kept hz hg1)
      have hz1 : wb < w1.heap.size := Nat.lt_of_lt_of_le hz HK1.out.size
      by_cases hlt : j < N
      · have hlt' : j < l.length := by rw [HN.out]; exact hlt
        obtain ⟨-, s2, s3, s4⟩ := serve HO.out hlt'
        obtain ⟨y, hy⟩ : ∃ y, l[j] = y := ⟨_, rfl⟩
        rw [hy] at s3
        have HY := Lib.hid hy
        have HV := Lib.hid (And.intro s2 (And.intro s3 s4))
        clear hy s2 s3 s4 hg1 hBm
        go_wp2_with fail
        refine (enext_any HV.out.2.1 HV.out.2.2 HV.out.1 wb p2 k2 w1 hz1 (by rw [List.length_drop]; exact HK1.out.cell) HK1.out.froz (by rw [List.length_drop]; exact Ow.sl intEnc HK1.out.rest) (by have := HN.out; simp; omega)).mono ?_
        rintro e w3 ⟨p3, k3, w2, rfl, hO2, hg2, hV3⟩
        obtain ⟨n1, n2, n3, n4, n5, n6⟩ := HK1.out.next hz hg2 hO2
        rw [← hV3] at n1 n2 n3 n4 n5 n6
        have HX := Lib.hid (And.intro n1 (And.intro n2 (And.intro n3 (And.intro n4 (And.intro n5 n6)))))
        clear hO2 hg2 hV3 n1 n2 n3 n4 n5 n6
        have hw3 : w.heap.size ≤ (w3.alloc (.cells #[.int .i64 y] 3)).heap.size := by have := HX.out.2.2.2.2.2; simp; omega
        have HW3 := Lib.hid hw3
        clear hw3
        go_wp2_with (at_builtin; refine wpList_app (base := w.heap.size) rfl _ _ 27 rfl (.int .i64 0) 8 Tryz.underlying27 int_info rfl (by decide) intEnc rfl rfl (xs := l.take j) (ys := [y]) (HX.out.1.kept ((Below.refl _ _).alloc (Nat.le_refl _) _)) (sli_one w3 y rfl) (by simp only [List.length_take, List.length_cons, List.length_nil]; unfold maxLen; omega) (by simp only [List.length_take, List.length_cons, List.length_nil]; omega) HW3.out ?_; intro v6 w6 h6 hgr6)
        obtain ⟨p6, k6, rfl, hK6⟩ := HK1.out.app hz hb0 hlt' HY.out HX.out.2.1 HX.out.2.2.1 HX.out.2.2.2.1 HX.out.2.2.2.2.1 HX.out.2.2.2.2.2 h6 hgr6
        exact ⟨⟨j + 1, p6, p3, k6, k3, rfl, by omega, by omega, Lib.hid hK6⟩, by simp [lenOf]; omega⟩
      · have : j = N := by omega
        subst this
        have hd : l.drop j = [] := by rw [← HN.out]; simp
        have HE : Hid (nxB (l.drop j) = false ∧ nxI (l.drop j) = 0 ∧ nxL (l.drop j) = []) := Lib.hid (by rw [hd]; decide)
        go_wp2_with fail
        refine (enext_any HE.out.2.1 HE.out.2.2 HE.out.1 wb p2 k2 w1 hz1 (by rw [List.length_drop]; exact HK1.out.cell) HK1.out.froz (by rw [List.length_drop]; exact Ow.sl intEnc HK1.out.rest) (by have := HN.out; simp; omega)).mono ?_
        rintro e w3 ⟨p3, k3, w2, rfl, hO2, hg2, hV3⟩
        obtain ⟨n1, n2, n3, n4, n5, n6⟩ := HK1.out.next hz hg2 hO2
        rw [← hV3] at n1 n2 n3 n4 n5 n6
        have hdm : l.drop m = [] := List.drop_eq_nil_of_le (by rw [HN.out]; omega)
        have htm : l.take m = l.take j := by rw [List.take_of_length_le (by rw [HN.out]; omega), List.take_of_length_le (by rw [HN.out]; omega)]
        have htl : (l.take j).length = j := by rw [List.length_take, HN.out]; omega
        have hres : RetTk b0 w wb m l (.returned (.slice pt j kt)) w3 := ⟨pt, p3, kt, k3, by rw [htm, htl], by rw [htm, htl]; exact n1, by rw [hdm]; exact Ow.mono n2 (Nat.le_trans hb0 HK1.out.size), by rw [hdm]; exact n3, n5⟩
        have HRS := Lib.hid hres
        clear hO2 hg2 hV3 n1 n2 n3 n4 n5 n6 hd hdm htm htl hres
        go_wp2
        go_ret
        exact HRS.out
    · have : j = m := by omega
      subst this
      have hT1 : Calls Tryz.prog 241 (#[.int .i64 j] ++ lb) wr fun e w' => e = .returned (.bool false) ∧ Kept wr w' := (HT.out wr j hBm).mono fun e w' h => ⟨h.1.trans (ret_bool (by simp)), h.2⟩
      have HT1 := Lib.hid hT1
      clear hT1
      go_wp2_with fail
      refine HT1.out.mono ?_
      rintro e w1 ⟨rfl, hg1⟩
      have hK1 := HR.out.kept hz hg1
      have htl : (l.take j).length = j := by rw [List.length_take, HN.out]; omega
      have hres : RetTk b0 w wb j l (.returned (.slice pt j kt)) w1 := ⟨pt, p2, kt, k2, by rw [htl], by rw [htl]; exact hK1.told, by rw [List.length_drop]; exact hK1.rest, by rw [List.length_drop]; exact hK1.cell, hK1.below⟩
      have HRS := Lib.hid hres
      clear hK1 htl hres
      go_wp2
      go_ret
      exact HRS.out
end Go.Proofs.YtjbcfjfnobklkaaGreat

/- Layer 6: a notice: for so many at most; Notify, NotifyAll. -/
namespace Go.Proofs.YtjbcfjfnobklkaaGreat
set_option linter.unusedVariables false
set_option linter.unusedSimpArgs false
open Go.ChangeShapes Go.WideShapes Go.ChangeAt Go.RowKit

/-- What a call that hands back an event and a list leaves. -/
def RetEL (w : World) (ep : Int) (r t : List Int) (e : Ending) (w' : World) : Prop :=
  ∃ (p q : Option Addr) (k k' : Nat), e = .returned (.tuple #[.agg #[.int .i64 ep, .slice p r.length k], .slice q t.length k']) ∧ Ow w' w.heap.size 3 1 intC r (.slice p r.length k) ∧ Ow w' w.heap.size 3 1 intC t (.slice q t.length k') ∧ Kept w w'
theorem ntE_ok {ep : Int} {l : List Int} (h : okE ep l = true) (m : Nat) : ntE ep l = nxE ep ∧ ntL m ep l = l.drop m ∧ ntT m ep l = l.take m := by simp [ntE, ntL, ntT, h]
theorem ntE_no {ep : Int} {l : List Int} (h : okE ep l = false) (m : Nat) : ntE ep l = ep ∧ ntL m ep l = l ∧ ntT m ep l = [] := by simp [ntE, ntL, ntT, h]
set_option maxHeartbeats 4000000 in
theorem enotice_any (ep : Int) (l : List Int) (m : Nat) (p : Option Addr) (k : Nat) (w : World) (lb : Array Value) (hl : Sl w 1 intC l (.slice p l.length k)) (hm : l.length ≤ 999999) (hmm : m ≤ 999999) (hT : Tells 241 lb (fun x => decide (x < (m : Int))) w) :
    Calls Tryz.prog 213 #[.agg #[.int .i64 ep, .slice p l.length k], .func (.func 241) #[] lb] w (RetEL w (ntE ep l) (ntL m ep l) (ntT m ep l)) := by
  have H := Lib.hid hl
  have HT := Lib.hid hT
  clear hl hT
  cases hok : okE ep l
  · obtain ⟨e1, e2, e3⟩ := ntE_no hok m
    rw [e1, e2, e3]
    have HO := Lib.hid hok
    clear hok e1 e2 e3
    go_enter Tryz.func213, Tryz.ntmps213
    go_wp2_with fail
    refine (echeck_val HO.out p k _ (H.out.kept (by repeat' (first | (with_reducible exact Below.refl _ _) | (with_reducible assumption) | (with_reducible refine kept_alloc ?_ _) | (with_reducible refine kept_drewN ?_ _) | (with_reducible refine Below.drew ?_) | (with_reducible refine Below.setCell ?_ (by first | omega | (simp; omega) | (simp; done)) _) | (refine kept_trans ?_ (by with_reducible assumption)))))).mono ?_
    rintro e w1 ⟨rfl, hg1⟩
    have hcs : CellsAt w1 [(w.heap.size, 0, .int .i64 ep), (w.heap.size, 1, .slice p l.length k), (w.heap.size + 1, 0, .int .i64 0), (w.heap.size + 1, 1, .slice none 0 0)] := cells_keep hg1 (by (simp only [CellsAt]; (repeat' (first | exact trivial | (refine And.intro ?_ ?_))); all_goals (first | (focus ((try simp only [World.size_setCell, World.size_alloc]); omega)) | (repeat (first | rfl | assumption | (refine (World.cell?_alloc_past _ _ _ ?_).trans ?_; focus ((try simp only [World.size_setCell, World.size_alloc]); omega)) | (refine (World.cell?_alloc_at _ _ _ _ ?_).trans ?_; focus ((try simp only [World.size_setCell, World.size_alloc]); done)) | (refine (World.cell?_setCell_other _ _ _ _ ?_).trans ?_; focus (simp; done)) | (refine (World.cell?_setCell_other _ _ _ _ ?_).trans ?_; focus (simp; omega)) | (refine World.cell?_setCell_same' _ _ _ ?_; focus (simp; done)))))))
    have hq0 := hcs.1.2; have hq1 := hcs.2.1.2; have hq2 := hcs.2.2.1.2; have hq3 := hcs.2.2.2.1.2; have hz0 := hcs.1.1; have hz1 := hcs.2.2.1.1
    have hfr : ∀ j, w1.frozen? ⟨w.heap.size + 1, j, none⟩ = false := fun j => ((bcell hg1).2 _ _ (by simp)).trans (World.frozen?_alloc_at _ _ _ _ (by simp))
    go_wp2_with fail
    refine (ekept_any ep l p k _ (H.out.kept (by repeat' (first | (with_reducible exact Below.refl _ _) | (with_reducible assumption) | (with_reducible refine kept_alloc ?_ _) | (with_reducible refine kept_drewN ?_ _) | (with_reducible refine Below.drew ?_) | (with_reducible refine Below.setCell ?_ (by first | omega | (simp; omega) | (simp; done)) _) | (refine kept_trans ?_ (by with_reducible assumption))))) hm).mono ?_
    rintro e w2 ⟨p2, k2, rfl, hO2, hg2⟩
    have hfr2 : ∀ j, w2.frozen? ⟨w.heap.size + 1, j, none⟩ = false := fun j => ((bcell hg2).2 _ _ hz1).trans (hfr j)
    have hz1' : w.heap.size + 1 < w1.heap.size := hz1
    have hcs := cells_keep hg2 hcs
    clear hq0 hq1 hq2 hq3 hz0 hz1
    have hq0 := hcs.1.2; have hq1 := hcs.2.1.2; have hq2 := hcs.2.2.1.2; have hq3 := hcs.2.2.2.1.2; have hz0 := hcs.1.1; have hz1 := hcs.2.2.1.1
    go_wp2
    refine bodyPost_ret (v := .tuple #[.agg #[.int .i64 ep, .slice p2 l.length k2], .slice none 0 0]) (by simp [results, Tryz.results213, go_sem, *]) rfl ?_
    have hB : Below w.heap.size w w2 := by repeat' (first | (with_reducible exact Below.refl _ _) | (with_reducible assumption) | (with_reducible refine kept_alloc ?_ _) | (with_reducible refine kept_drewN ?_ _) | (with_reducible refine Below.drew ?_) | (with_reducible refine Below.setCell ?_ (by first | omega | (simp; omega) | (simp; done)) _) | (refine kept_trans ?_ (by with_reducible assumption)))
    exact ⟨p2, none, k2, 0, rfl, Ow.mono ((hO2.setCell (p := ⟨_, _, none⟩) hz1' _).setCell (p := ⟨_, _, none⟩) hz1' _) (by omega), owi_nil, (hB.setCell (p := ⟨_, _, none⟩) (Nat.le_succ _) _).setCell (p := ⟨_, _, none⟩) (Nat.le_succ _) _⟩
  · obtain ⟨e1, e2, e3⟩ := ntE_ok hok m
    rw [e1, e2, e3]
    have hlo := okE_ln hok
    have hb := (okE_iff.1 hok).1
    have HO := Lib.hid hok
    have HLO := Lib.hid hlo
    clear hok hlo e1 e2 e3
    have i1 : IntKind.i64.wrap (ep + 1) = ep + 1 := IntWalk.i64_in _ (by omega)
    go_enter Tryz.func213, Tryz.ntmps213
    go_wp2_with fail
    refine (echeck_val HO.out p k _ (H.out.kept (by repeat' (first | (with_reducible exact Below.refl _ _) | (with_reducible assumption) | (with_reducible refine kept_alloc ?_ _) | (with_reducible refine kept_drewN ?_ _) | (with_reducible refine Below.drew ?_) | (with_reducible refine Below.setCell ?_ (by first | omega | (simp; omega) | (simp; done)) _) | (refine kept_trans ?_ (by with_reducible assumption)))))).mono ?_
    rintro e w1 ⟨rfl, hg1⟩
    have hcs : CellsAt w1 [(w.heap.size, 0, .int .i64 ep), (w.heap.size, 1, .slice p l.length k), (w.heap.size + 1, 0, .int .i64 0), (w.heap.size + 1, 1, .slice none 0 0)] := cells_keep hg1 (by (simp only [CellsAt]; (repeat' (first | exact trivial | (refine And.intro ?_ ?_))); all_goals (first | (focus ((try simp only [World.size_setCell, World.size_alloc]); omega)) | (repeat (first | rfl | assumption | (refine (World.cell?_alloc_past _ _ _ ?_).trans ?_; focus ((try simp only [World.size_setCell, World.size_alloc]); omega)) | (refine (World.cell?_alloc_at _ _ _ _ ?_).trans ?_; focus ((try simp only [World.size_setCell, World.size_alloc]); done)) | (refine (World.cell?_setCell_other _ _ _ _ ?_).trans ?_; focus (simp; done)) | (refine (World.cell?_setCell_other _ _ _ _ ?_).trans ?_; focus (simp; omega)) | (refine World.cell?_setCell_same' _ _ _ ?_; focus (simp; done)))))))
    have hq0 := hcs.1.2; have hq1 := hcs.2.1.2; have hq2 := hcs.2.2.1.2; have hq3 := hcs.2.2.2.1.2; have hz0 := hcs.1.1; have hz1 := hcs.2.2.1.1
    have hfr : ∀ j, w1.frozen? ⟨w.heap.size + 1, j, none⟩ = false := fun j => ((bcell hg1).2 _ _ (by simp)).trans (World.frozen?_alloc_at _ _ _ _ (by simp))
    go_wp2_with fail
    refine (ekept_any ep l p k _ (H.out.kept (by repeat' (first | (with_reducible exact Below.refl _ _) | (with_reducible assumption) | (with_reducible refine kept_alloc ?_ _) | (with_reducible refine kept_drewN ?_ _) | (with_reducible refine Below.drew ?_) | (with_reducible refine Below.setCell ?_ (by first | omega | (simp; omega) | (simp; done)) _) | (refine kept_trans ?_ (by with_reducible assumption))))) hm).mono ?_
    rintro e w2 ⟨p2, k2, rfl, hO2, hg2⟩
    have hfr2 : ∀ j, w2.frozen? ⟨w.heap.size + 1, j, none⟩ = false := fun j => ((bcell hg2).2 _ _ hz1).trans (hfr j)
    have hB2 : Below w.heap.size w w2 := by repeat' (first | (with_reducible exact Below.refl _ _) | (with_reducible assumption) | (with_reducible refine kept_alloc ?_ _) | (with_reducible refine kept_drewN ?_ _) | (with_reducible refine Below.drew ?_) | (with_reducible refine Below.setCell ?_ (by first | omega | (simp; omega) | (simp; done)) _) | (refine kept_trans ?_ (by with_reducible assumption)))
    have HS2 := Lib.hid hO2
    have hw1 : w.heap.size + 1 < w1.heap.size := hz1
    have hw12 := hg2.size
    have hcs := cells_keep hg2 hcs
    clear hq0 hq1 hq2 hq3 hz0 hz1 hO2 hg1 hg2
    have hq0 := hcs.1.2; have hq1 := hcs.2.1.2; have hq2 := hcs.2.2.1.2; have hq3 := hcs.2.2.2.1.2; have hz0 := hcs.1.1; have hz1 := hcs.2.2.1.1
    have HC2 := Lib.hid hcs
    clear hcs
    have hfd : ∀ W : World, (Instr.field 29 (.agg #[.int .i64 ep, .slice p2 l.length k2]) 1).run Tryz.prog W = .ok (.slice p2 l.length k2) W := fun _ => (by kernel_rfl)
    go_wp2_with fail
    obtain ⟨V, hV⟩ : ∃ V, w2.alloc (.cells #[.slice p2 l.length k2] 191) = V := ⟨_, rfl⟩
    have v1 : V.cell? ⟨w2.heap.size, 0, none⟩ = some (.slice p2 l.length k2) := by rw [← hV]; simp
    have v2 : V.frozen? ⟨w2.heap.size, 0, none⟩ = false := by rw [← hV]; exact World.frozen?_alloc_at _ _ _ _ (by simp)
    have v3 : w2.heap.size < V.heap.size := by rw [← hV]; simp
    have v4 : Below w2.heap.size w2 V := by rw [← hV]; repeat' (first | (with_reducible exact Below.refl _ _) | (with_reducible assumption) | (with_reducible refine kept_alloc ?_ _) | (with_reducible refine kept_drewN ?_ _) | (with_reducible refine Below.drew ?_) | (with_reducible refine Below.setCell ?_ (by first | omega | (simp; omega) | (simp; done)) _) | (refine kept_trans ?_ (by with_reducible assumption)))
    have hB3 : Below w.heap.size w V := kept_trans hB2 v4
    rw [hV]
    clear hV
    refine (etaken_any w1.heap.size l m w2.heap.size p2 k2 V w lb v3 v1 v2 (HS2.out.kept v4) (by omega) HLO.out hm hmm HT.out hB3 hB2.size).mono ?_
    rintro e w4 ⟨pt, p4, kt, k4, rfl, hO4, hS4, c4, hg4⟩
    have hv4 : Below w2.heap.size w2 w4 := v4.trans hg4
    have hcs := cells_keep hv4 HC2.out
    have hfr4 : ∀ j, w4.frozen? ⟨w.heap.size + 1, j, none⟩ = false := fun j => ((bcell hv4).2 _ _ hz1).trans (hfr2 j)
    have hB4 : Below w.heap.size w w4 := kept_trans hB2 hv4
    have hz2 : w2.heap.size < w4.heap.size := Nat.lt_of_lt_of_le v3 hg4.size
    have HX := Lib.hid (And.intro hO4 (And.intro hS4 hB4))
    clear hq0 hq1 hq2 hq3 v1 v2 v4 hg4 hO4 hS4 hB4 hfr2 hfr hfd
    have hz1' : w.heap.size + 1 < w2.heap.size := hz1
    clear hz0 hz1
    have hq0 := hcs.1.2; have hq1 := hcs.2.1.2; have hq2 := hcs.2.2.1.2; have hq3 := hcs.2.2.2.1.2; have hz0 := hcs.1.1; have hz1 := hcs.2.2.1.1
    clear hcs
    go_wp2
    have hv3 : w.heap.size + 1 < V.heap.size := by omega
    have htk : (l.take m).length = min m l.length := List.length_take
    have hdk : (l.drop m).length = l.length - m := List.length_drop
    rw [← htk, ← hdk, ← nxE_min]
    refine bodyPost_ret (v := .tuple #[.agg #[.int .i64 (nxE ep), .slice p4 (l.drop m).length k4], .slice pt (l.take m).length kt]) (by simp [results, Tryz.results213, go_sem, *]) rfl ?_
    exact ⟨p4, pt, k4, kt, rfl, Ow.mono ((HX.out.2.1.setCell (p := ⟨_, _, none⟩) hw1 _).setCell (p := ⟨_, _, none⟩) hw1 _) (by omega), Ow.mono ((HX.out.1.setCell (p := ⟨_, _, none⟩) hv3 _).setCell (p := ⟨_, _, none⟩) hv3 _) (by omega), (HX.out.2.2.setCell (p := ⟨_, _, none⟩) (Nat.le_succ _) _).setCell (p := ⟨_, _, none⟩) (Nat.le_succ _) _⟩
end Go.Proofs.YtjbcfjfnobklkaaGreat

/- Layer 6: Notify, NotifyAll. -/
namespace Go.Proofs.YtjbcfjfnobklkaaGreat
set_option linter.unusedVariables false
set_option linter.unusedSimpArgs false
open Go.ChangeShapes Go.WideShapes Go.ChangeAt Go.RowKit

/-- A box for an event, made of late. -/
def Fresh (n : Nat) (W : World) : Prop := W.cell? ⟨n, 0, none⟩ = some (.int .i64 0) ∧ W.cell? ⟨n, 1, none⟩ = some (.slice none 0 0) ∧ W.frozen? ⟨n, 0, none⟩ = false ∧ W.frozen? ⟨n, 1, none⟩ = false ∧ n < W.heap.size
theorem Fresh.new (W : World) : Fresh W.heap.size (W.alloc (.cells #[.int .i64 0, .slice none 0 0] 29)) :=
  ⟨World.cell?_alloc_at (w := W) _ _ _ 0 rfl, World.cell?_alloc_at (w := W) _ _ _ 1 rfl, World.frozen?_alloc_at (w := W) _ _ _ 0 rfl, World.frozen?_alloc_at (w := W) _ _ _ 1 rfl, by simp⟩
theorem Fresh.new_drew (W : World) : Fresh W.heap.size (W.alloc (.cells #[.int .i64 0, .slice none 0 0] 29)).drew := Fresh.new W
theorem Fresh.drew_new (W : World) : Fresh W.heap.size (W.drew.alloc (.cells #[.int .i64 0, .slice none 0 0] 29)) := Fresh.new W.drew
theorem Fresh.kept {n : Nat} {W W' : World} (h : Fresh n W) (hk : Kept W W') : Fresh n W' :=
  ⟨((bcell hk).1 _ _ h.2.2.2.2).trans h.1, ((bcell hk).1 _ _ h.2.2.2.2).trans h.2.1, ((bcell hk).2 _ _ h.2.2.2.2).trans h.2.2.1, ((bcell hk).2 _ _ h.2.2.2.2).trans h.2.2.2.1, Nat.lt_of_lt_of_le h.2.2.2.2 hk.size⟩
theorem set2_far (W : World) (n : Nat) (v0 v1 : Value) {b i : Nat} (h : b < n) : ((W.setCell ⟨n, 0, none⟩ v0).setCell ⟨n, 1, none⟩ v1).cell? ⟨b, i, none⟩ = W.cell? ⟨b, i, none⟩ :=
  (((Below.refl n W).setCell (p := ⟨n, 0, none⟩) (Nat.le_refl _) v0).setCell (p := ⟨n, 1, none⟩) (Nat.le_refl _) v1).cell (p := ⟨b, i, none⟩) h
/-- A call's event that lies in a box of its own, made ahead of the call or behind it; and who was told. -/
structure Boxed (V : World) (E : Int) (R T : List Int) (p3 q3 : Option Addr) (k3 k4 : Nat) (xb : Nat) (W : World) : Prop where
  c0 : W.cell? ⟨xb, 0, none⟩ = some (.int .i64 E)
  c1 : W.cell? ⟨xb, 1, none⟩ = some (.slice p3 R.length k3)
  r : Ow W V.heap.size 3 1 intC R (.slice p3 R.length k3)
  t : Ow W V.heap.size 3 1 intC T (.slice q3 T.length k4)
  below : Below V.heap.size V W
  ge : V.heap.size ≤ xb
  lt : xb < W.heap.size
theorem boxed_late {V wy : World} {E : Int} {R T : List Int} {p3 q3 : Option Addr} {k3 k4 b : Nat} (hg : Below V.heap.size V wy) (hb : V.heap.size ≤ b) (h3 : Ow wy b 3 1 intC R (.slice p3 R.length k3)) (h4 : Ow wy b 3 1 intC T (.slice q3 T.length k4)) :
    Boxed V E R T p3 q3 k3 k4 wy.heap.size (wy.alloc (.cells #[.int .i64 E, .slice p3 R.length k3] 29)) :=
  have hk : Kept wy (wy.alloc (.cells #[.int .i64 E, .slice p3 R.length k3] 29)) := (Below.refl _ _).alloc (Nat.le_refl _) _
  ⟨World.cell?_alloc_at (w := wy) _ _ _ 0 rfl, World.cell?_alloc_at (w := wy) _ _ _ 1 rfl, Ow.mono (h3.kept hk) hb, Ow.mono (h4.kept hk) hb, hg.alloc hg.size _, hg.size, by simp⟩
theorem boxed_set {V wy : World} {E : Int} {R T : List Int} {p3 q3 : Option Addr} {k3 k4 b n : Nat} (hg : Below V.heap.size V wy) (hb : V.heap.size ≤ n) (hnb : n < b) (h3 : Ow wy b 3 1 intC R (.slice p3 R.length k3)) (h4 : Ow wy b 3 1 intC T (.slice q3 T.length k4))
    (f0 : wy.cell? ⟨n, 0, none⟩ = some (.int .i64 0)) (f1 : wy.cell? ⟨n, 1, none⟩ = some (.slice none 0 0)) (f4 : n < wy.heap.size) :
    Boxed V E R T p3 q3 k3 k4 n ((wy.setCell ⟨n, 0, none⟩ (.int .i64 E)).setCell ⟨n, 1, none⟩ (.slice p3 R.length k3)) := by
  refine ⟨?_, ?_, Ow.mono ((h3.setCell (p := ⟨n, 0, none⟩) hnb _).setCell (p := ⟨n, 1, none⟩) hnb _) (by omega), Ow.mono ((h4.setCell (p := ⟨n, 0, none⟩) hnb _).setCell (p := ⟨n, 1, none⟩) hnb _) (by omega), (hg.setCell (p := ⟨n, 0, none⟩) hb _).setCell (p := ⟨n, 1, none⟩) hb _, hb, by simpa using f4⟩
  · refine (World.cell?_setCell_other _ _ _ _ (by simp)).trans ?_
    exact World.cell?_setCell_same' _ _ _ (by rw [f0]; rfl)
  · refine World.cell?_setCell_same' _ _ _ ?_
    rw [show (wy.setCell ⟨n, 0, none⟩ (.int .i64 E)).cell? ⟨n, 1, none⟩ = wy.cell? ⟨n, 1, none⟩ from World.cell?_setCell_other _ _ _ _ (by simp), f1]; rfl
/-- What 'Notify' leaves. -/
def RetNf (w : World) (ep : Int) (r : List Int) (x : Int) (b : Bool) (e : Ending) (w' : World) : Prop :=
  ∃ (p : Option Addr) (k : Nat), e = .returned (.tuple #[.agg #[.int .i64 ep, .slice p r.length k], .int .i64 x, .bool b]) ∧ Ow w' w.heap.size 3 1 intC r (.slice p r.length k) ∧ Kept w w'
set_option maxHeartbeats 4000000 in
theorem enotify_any (ep : Int) (l : List Int) (p : Option Addr) (k : Nat) (w : World) (hl : Sl w 1 intC l (.slice p l.length k)) (hm : l.length ≤ 999999) :
    Calls Tryz.prog 159 #[.agg #[.int .i64 ep, .slice p l.length k]] w (RetNf w (ntE ep l) (ntL 1 ep l) (hdI (ntT 1 ep l)) (hdB (ntT 1 ep l))) := by
  have H := Lib.hid hl
  clear hl
  obtain ⟨E, hE⟩ : ∃ E, ntE ep l = E := ⟨_, rfl⟩
  obtain ⟨R, hR⟩ : ∃ R, ntL 1 ep l = R := ⟨_, rfl⟩
  obtain ⟨T, hT⟩ : ∃ T, ntT 1 ep l = T := ⟨_, rfl⟩
  have hN : ∀ (W : World) (lb : Array Value), Sl W 1 intC l (.slice p l.length k) → Tells 241 lb (fun x => decide (x < (1 : Int))) W → Calls Tryz.prog 213 #[.agg #[.int .i64 ep, .slice p l.length k], .func (.func 241) #[] lb] W (RetEL W E R T) := fun W lb h1 h2 => hE ▸ hR ▸ hT ▸ enotice_any ep l 1 p k W lb h1 hm (by decide) h2
  have HN := Lib.hid hN
  rw [hE, hR, hT]
  clear hN hE hR hT
  go_enter Tryz.func159, Tryz.ntmps159
  go_wp2
  obtain ⟨V, hV⟩ : ∃ V, (w.alloc (.cells #[.int .i64 ep, .slice p l.length k] 29)).alloc (.cells #[.int .i64 0, .slice none 0 0] 29) = V := ⟨_, rfl⟩
  have hcs : CellsAt V [(w.heap.size, 0, .int .i64 ep), (w.heap.size, 1, .slice p l.length k), (w.heap.size + 1, 0, .int .i64 0), (w.heap.size + 1, 1, .slice none 0 0)] := by rw [← hV]; (simp only [CellsAt]; (repeat' (first | exact trivial | (refine And.intro ?_ ?_))); all_goals (first | (focus ((try simp only [World.size_setCell, World.size_alloc]); omega)) | (repeat (first | rfl | assumption | (refine (World.cell?_alloc_past _ _ _ ?_).trans ?_; focus ((try simp only [World.size_setCell, World.size_alloc]); omega)) | (refine (World.cell?_alloc_at _ _ _ _ ?_).trans ?_; focus ((try simp only [World.size_setCell, World.size_alloc]); done)) | (refine (World.cell?_setCell_other _ _ _ _ ?_).trans ?_; focus (simp; done)) | (refine (World.cell?_setCell_other _ _ _ _ ?_).trans ?_; focus (simp; omega)) | (refine World.cell?_setCell_same' _ _ _ ?_; focus (simp; done))))))
  have hB : Below w.heap.size w V := by rw [← hV]; repeat' (first | (with_reducible exact Below.refl _ _) | (with_reducible assumption) | (with_reducible refine kept_alloc ?_ _) | (with_reducible refine kept_drewN ?_ _) | (with_reducible refine Below.drew ?_) | (with_reducible refine Below.setCell ?_ (by first | omega | (simp; omega) | (simp; done)) _) | (refine kept_trans ?_ (by with_reducible assumption)))
  have hz : V.heap.size = w.heap.size + 2 := by rw [← hV]; simp
  have hfr : ∀ j, V.frozen? ⟨w.heap.size + 1, j, none⟩ = false := by intro j; rw [← hV]; exact World.frozen?_alloc_at _ _ _ _ (by simp)
  rw [hV]
  clear hV
  have HL := Lib.hid (H.out.kept hB)
  have hsz : w.heap.size < V.heap.size := by omega
  have hsz1 : w.heap.size + 1 < V.heap.size := by omega
  have hq0 := hcs.1.2; have hq1 := hcs.2.1.2; have hq2 := hcs.2.2.1.2; have hq3 := hcs.2.2.2.1.2; have hz0 := hcs.1.1; have hz1 := hcs.2.2.1.1
  have hzz := Lib.hid hz
  clear hz
  go_region_held3 (fun w' => w'.cell? ⟨w.heap.size, 0, none⟩ = some (.int .i64 ep) ∧ w'.cell? ⟨w.heap.size, 1, none⟩ = some (.slice p l.length k))
    (first
      | (go_split_ands; refine ⟨?_, ?_⟩ <;> first | (with_reducible assumption) | (with_reducible (refine (World.cell?_alloc_past _ _ _ (by with_reducible assumption)).trans ?_; assumption)) | (with_reducible (refine (set2_far _ _ _ _ (by with_reducible assumption)).trans ?_; assumption)))
      | go_keep)
    ((first
      | (go_at_call 214; refine (eupto_any 1 _).mono ?_; rintro e wx ⟨lb, rfl, hTx, hgx⟩; have hgV : Below V.heap.size V wx := kept_trans (by repeat' (first | (with_reducible exact Below.refl _ _) | (with_reducible assumption) | (with_reducible refine kept_alloc ?_ _) | (with_reducible refine kept_drewN ?_ _) | (with_reducible refine Below.drew ?_) | (with_reducible refine Below.setCell ?_ (by first | omega | (simp; omega) | (simp; done)) _) | (refine kept_trans ?_ (by with_reducible assumption)))) hgx; have s0 := (hgV.cell (p := ⟨w.heap.size, 0, none⟩) hsz).trans hq0; have s1 := (hgV.cell (p := ⟨w.heap.size, 1, none⟩) hsz).trans hq1; have hsx : w.heap.size < wx.heap.size := Nat.lt_of_lt_of_le hsz hgV.size; have fr := Fresh.kept (Fresh.new_drew V) hgx)
      | (go_at_call 214; refine (eupto_any 1 _).mono ?_; rintro e wx ⟨lb, rfl, hTx, hgx⟩; have hgV : Below V.heap.size V wx := kept_trans (by repeat' (first | (with_reducible exact Below.refl _ _) | (with_reducible assumption) | (with_reducible refine kept_alloc ?_ _) | (with_reducible refine kept_drewN ?_ _) | (with_reducible refine Below.drew ?_) | (with_reducible refine Below.setCell ?_ (by first | omega | (simp; omega) | (simp; done)) _) | (refine kept_trans ?_ (by with_reducible assumption)))) hgx; have s0 := (hgV.cell (p := ⟨w.heap.size, 0, none⟩) hsz).trans hq0; have s1 := (hgV.cell (p := ⟨w.heap.size, 1, none⟩) hsz).trans hq1; have hsx : w.heap.size < wx.heap.size := Nat.lt_of_lt_of_le hsz hgV.size; have fr := Fresh.kept (Fresh.drew_new V) hgx)
      | (go_at_call 214; refine (eupto_any 1 _).mono ?_; rintro e wx ⟨lb, rfl, hTx, hgx⟩; have hgV : Below V.heap.size V wx := kept_trans (by repeat' (first | (with_reducible exact Below.refl _ _) | (with_reducible assumption) | (with_reducible refine kept_alloc ?_ _) | (with_reducible refine kept_drewN ?_ _) | (with_reducible refine Below.drew ?_) | (with_reducible refine Below.setCell ?_ (by first | omega | (simp; omega) | (simp; done)) _) | (refine kept_trans ?_ (by with_reducible assumption)))) hgx; have s0 := (hgV.cell (p := ⟨w.heap.size, 0, none⟩) hsz).trans hq0; have s1 := (hgV.cell (p := ⟨w.heap.size, 1, none⟩) hsz).trans hq1; have hsx : w.heap.size < wx.heap.size := Nat.lt_of_lt_of_le hsz hgV.size)
      | (go_at_call 213; refine (HN.out _ lb (HL.out.kept (by repeat' (first | (with_reducible exact Below.refl _ _) | (with_reducible assumption) | (with_reducible refine kept_alloc ?_ _) | (with_reducible refine kept_drewN ?_ _) | (with_reducible refine Below.drew ?_) | (with_reducible refine Below.setCell ?_ (by first | omega | (simp; omega) | (simp; done)) _) | (refine kept_trans ?_ (by with_reducible assumption))))) (hTx.kept (by repeat' (first | (with_reducible exact Below.refl _ _) | (with_reducible assumption) | (with_reducible refine kept_alloc ?_ _) | (with_reducible refine kept_drewN ?_ _) | (with_reducible refine Below.drew ?_) | (with_reducible refine Below.setCell ?_ (by first | omega | (simp; omega) | (simp; done)) _) | (refine kept_trans ?_ (by with_reducible assumption)))))).mono ?_; rintro e wy ⟨p3, q3, k3, k4, rfl, hO3, hO4, hgy⟩; have hgW : Below V.heap.size V wy := kept_trans (by repeat' (first | (with_reducible exact Below.refl _ _) | (with_reducible assumption) | (with_reducible refine kept_alloc ?_ _) | (with_reducible refine kept_drewN ?_ _) | (with_reducible refine Below.drew ?_) | (with_reducible refine Below.setCell ?_ (by first | omega | (simp; omega) | (simp; done)) _) | (refine kept_trans ?_ (by with_reducible assumption)))) hgy; have t0 := (hgW.cell (p := ⟨w.heap.size, 0, none⟩) hsz).trans hq0; have t1 := (hgW.cell (p := ⟨w.heap.size, 1, none⟩) hsz).trans hq1; have hsy : w.heap.size < wy.heap.size := Nat.lt_of_lt_of_le hsz hgW.size; have fy := Fresh.kept fr hgy; have f0 := fy.1; have f1 := fy.2.1; have f2 := fy.2.2.1; have f3 := fy.2.2.2.1; have f4 := fy.2.2.2.2; clear fy)
      | (go_at_call 213; refine (HN.out _ lb (HL.out.kept (by repeat' (first | (with_reducible exact Below.refl _ _) | (with_reducible assumption) | (with_reducible refine kept_alloc ?_ _) | (with_reducible refine kept_drewN ?_ _) | (with_reducible refine Below.drew ?_) | (with_reducible refine Below.setCell ?_ (by first | omega | (simp; omega) | (simp; done)) _) | (refine kept_trans ?_ (by with_reducible assumption))))) (hTx.kept (by repeat' (first | (with_reducible exact Below.refl _ _) | (with_reducible assumption) | (with_reducible refine kept_alloc ?_ _) | (with_reducible refine kept_drewN ?_ _) | (with_reducible refine Below.drew ?_) | (with_reducible refine Below.setCell ?_ (by first | omega | (simp; omega) | (simp; done)) _) | (refine kept_trans ?_ (by with_reducible assumption)))))).mono ?_; rintro e wy ⟨p3, q3, k3, k4, rfl, hO3, hO4, hgy⟩; have hgW : Below V.heap.size V wy := kept_trans (by repeat' (first | (with_reducible exact Below.refl _ _) | (with_reducible assumption) | (with_reducible refine kept_alloc ?_ _) | (with_reducible refine kept_drewN ?_ _) | (with_reducible refine Below.drew ?_) | (with_reducible refine Below.setCell ?_ (by first | omega | (simp; omega) | (simp; done)) _) | (refine kept_trans ?_ (by with_reducible assumption)))) hgy; have t0 := (hgW.cell (p := ⟨w.heap.size, 0, none⟩) hsz).trans hq0; have t1 := (hgW.cell (p := ⟨w.heap.size, 1, none⟩) hsz).trans hq1; have hsy : w.heap.size < wy.heap.size := Nat.lt_of_lt_of_le hsz hgW.size; have fy := Fresh.kept (Fresh.new wx) hgy; have f0 := fy.1; have f1 := fy.2.1; have f2 := fy.2.2.1; have f3 := fy.2.2.2.1; have f4 := fy.2.2.2.2; clear fy)
      | (go_at_call 213; refine (HN.out _ lb (HL.out.kept (by repeat' (first | (with_reducible exact Below.refl _ _) | (with_reducible assumption) | (with_reducible refine kept_alloc ?_ _) | (with_reducible refine kept_drewN ?_ _) | (with_reducible refine Below.drew ?_) | (with_reducible refine Below.setCell ?_ (by first | omega | (simp; omega) | (simp; done)) _) | (refine kept_trans ?_ (by with_reducible assumption))))) (hTx.kept (by repeat' (first | (with_reducible exact Below.refl _ _) | (with_reducible assumption) | (with_reducible refine kept_alloc ?_ _) | (with_reducible refine kept_drewN ?_ _) | (with_reducible refine Below.drew ?_) | (with_reducible refine Below.setCell ?_ (by first | omega | (simp; omega) | (simp; done)) _) | (refine kept_trans ?_ (by with_reducible assumption)))))).mono ?_; rintro e wy ⟨p3, q3, k3, k4, rfl, hO3, hO4, hgy⟩; have hgW : Below V.heap.size V wy := kept_trans (by repeat' (first | (with_reducible exact Below.refl _ _) | (with_reducible assumption) | (with_reducible refine kept_alloc ?_ _) | (with_reducible refine kept_drewN ?_ _) | (with_reducible refine Below.drew ?_) | (with_reducible refine Below.setCell ?_ (by first | omega | (simp; omega) | (simp; done)) _) | (refine kept_trans ?_ (by with_reducible assumption)))) hgy; have t0 := (hgW.cell (p := ⟨w.heap.size, 0, none⟩) hsz).trans hq0; have t1 := (hgW.cell (p := ⟨w.heap.size, 1, none⟩) hsz).trans hq1; have hsy : w.heap.size < wy.heap.size := Nat.lt_of_lt_of_le hsz hgW.size)))
  all_goals
    first
      | (have hN := boxed_set (E := E) hgW (Nat.le_refl _) fr.2.2.2.2 hO3 hO4 f0 f1 f4; generalize (wy.setCell ⟨V.heap.size, 0, none⟩ (.int .i64 E)).setCell ⟨V.heap.size, 1, none⟩ (.slice p3 R.length k3) = W at hN ⊢; obtain ⟨xb, hxb⟩ : ∃ xb, V.heap.size = xb := ⟨_, rfl⟩; have hN : Boxed V E R T p3 q3 k3 k4 xb W := hxb ▸ hN; rw [hxb])
      | (have hN := boxed_set (E := E) hgW hgV.size (by simp) hO3 hO4 f0 f1 f4; generalize (wy.setCell ⟨wx.heap.size, 0, none⟩ (.int .i64 E)).setCell ⟨wx.heap.size, 1, none⟩ (.slice p3 R.length k3) = W at hN ⊢; generalize wx.heap.size = xb at hN ⊢)
      | (have hN := boxed_late (E := E) hgW hgV.size hO3 hO4; generalize wy.alloc (.cells #[.int .i64 E, .slice p3 R.length k3] 29) = W at hN ⊢; generalize wy.heap.size = xb at hN ⊢)
  all_goals
    have b0 := hN.c0
    have b1 := hN.c1
    have b2 := hN.lt
    have hBW := hN.below
    have u2 := (hBW.cell (p := ⟨w.heap.size + 1, 0, none⟩) hsz1).trans hq2
    have u3 := (hBW.cell (p := ⟨w.heap.size + 1, 1, none⟩) hsz1).trans hq3
    have uf : ∀ j, W.frozen? ⟨w.heap.size + 1, j, none⟩ = false := fun j => (hBW.frozen (p := ⟨w.heap.size + 1, j, none⟩) hsz1).trans (hfr j)
    have uz : w.heap.size + 1 < W.heap.size := Nat.lt_of_lt_of_le hsz1 hBW.size
    have HNb := Lib.hid hN
    have hB0 : Below w.heap.size w W := hB.trans (hBW.mono hB.size)
    clear hN hBW hO3 hO4 hgy hgW hgx hgV
    cases T with
    | nil =>
      go_wp2
      refine bodyPost_ret (v := .tuple #[.agg #[.int .i64 E, .slice p3 R.length k3], .int .i64 0, .bool false]) (by simp [results, Tryz.results159, go_sem, *]) rfl ?_
      exact ⟨p3, k3, rfl, Ow.mono ((HNb.out.r.setCell (p := ⟨_, _, none⟩) hsz1 _).setCell (p := ⟨_, _, none⟩) hsz1 _) hB.size, (hB0.setCell (p := ⟨_, _, none⟩) (Nat.le_succ _) _).setCell (p := ⟨_, _, none⟩) (Nat.le_succ _) _⟩
    | cons t T =>
      obtain ⟨qp, qc, e1, _, _, _, hne⟩ := (Ow.sl intEnc HNb.out.t).is
      cases e1
      obtain ⟨tb, to, rfl, htb, -⟩ := hne (by simp)
      have ct : W.cell? ⟨tb, to, none⟩ = some (.int .i64 t) := by have h := sli_at (Ow.sl intEnc HNb.out.t) (j := 0) (by simp); rw [Nat.add_zero] at h; exact h
      have i1 : (((t :: T).length : Int) == 0) = false := by simp; omega
      have i2 : (0 : Int) < ((t :: T).length : Int) := by simp only [List.length_cons]; omega
      have htg := (HNb.out.t.lt tb rfl).1
      have hne1 : tb ≠ w.heap.size + 1 := by omega
      have hne2 : xb ≠ w.heap.size + 1 := by have := HNb.out.ge; omega
      have hto : ∀ (u0 u1 : Value), ((W.setCell ⟨w.heap.size + 1, 0, none⟩ u0).setCell ⟨w.heap.size + 1, 1, none⟩ u1).cell? ⟨tb, to, none⟩ = some (.int .i64 t) := fun u0 u1 => by
        rw [World.cell?_of_block (w := W.setCell ⟨w.heap.size + 1, 0, none⟩ u0) (Below.heap_setCell _ _ _ _ hne1), World.cell?_of_block (w := W) (Below.heap_setCell _ _ _ _ hne1)]; exact ct
      clear hne
      go_wp2
      go_region
      all_goals go_wp2
      all_goals
        refine bodyPost_ret (v := .tuple #[.agg #[.int .i64 E, .slice p3 R.length k3], .int .i64 t, .bool true]) (by simp [results, Tryz.results159, go_sem, *]) rfl ?_
        exact ⟨p3, k3, rfl, (Ow.mono ((HNb.out.r.setCell (p := ⟨_, _, none⟩) hsz1 _).setCell (p := ⟨_, _, none⟩) hsz1 _) hB.size).kept (by repeat' (first | (with_reducible exact Below.refl _ _) | (with_reducible assumption) | (with_reducible refine kept_alloc ?_ _) | (with_reducible refine kept_drewN ?_ _) | (with_reducible refine Below.drew ?_) | (with_reducible refine Below.setCell ?_ (by first | omega | (simp; omega) | (simp; done)) _) | (refine kept_trans ?_ (by with_reducible assumption)))), ((hB0.setCell (p := ⟨_, _, none⟩) (Nat.le_succ _) _).setCell (p := ⟨_, _, none⟩) (Nat.le_succ _) _).drew⟩

end Go.Proofs.YtjbcfjfnobklkaaGreat

/- Layer 6: Commit, Cancel. -/
namespace Go.Proofs.YtjbcfjfnobklkaaGreat
set_option linter.unusedVariables false
set_option linter.unusedSimpArgs false
open Go.ChangeShapes Go.WideShapes Go.ChangeAt Go.RowKit

/-- What 'Commit' leaves. -/
def RetCm (w : World) (ep : Int) (r : List Int) (b : Bool) (c : Int) (e : Ending) (w' : World) : Prop :=
  ∃ (p : Option Addr) (k : Nat), e = .returned (.tuple #[.agg #[.int .i64 ep, .slice p r.length k], .bool b, .int .i64 c]) ∧ Ow w' w.heap.size 3 1 intC r (.slice p r.length k) ∧ Kept w w'
theorem lenter_oval' {l r : List Int} {i c : Int} (hr : entL l i = r) (hc : entE l i = c) (p : Option Addr) (k : Nat) (w : World) (hl : Sl w 1 intC l (.slice p l.length k)) (hm : l.length ≤ 999999) :
    Calls Tryz.prog 148 #[.slice p l.length k, .int .i64 i] w (RetLO w r c) := hr ▸ hc ▸ lenter_own l i p k w hl hm
set_option maxHeartbeats 4000000 in
theorem ecommit_any (ep : Int) (l : List Int) (s i : Int) (p : Option Addr) (k : Nat) (w : World) (hl : Sl w 1 intC l (.slice p l.length k)) (hm : l.length ≤ 999999) :
    Calls Tryz.prog 160 #[.agg #[.int .i64 ep, .slice p l.length k], .int .i64 s, .int .i64 i] w (RetCm w ep (cmL ep l s i) (cmB ep l s i) (cmC ep l i)) := by
  have H := Lib.hid hl
  clear hl
  cases hok : okE ep l
  · obtain ⟨e1, e2, e3⟩ := cm_no (s := s) (i := i) hok
    rw [e1, e2, e3]
    have HO := Lib.hid hok
    clear hok e1 e2 e3
    go_enter Tryz.func160, Tryz.ntmps160
    go_wp2_with fail
    refine (echeck_val HO.out p k _ (H.out.kept (by repeat' (first | (with_reducible exact Below.refl _ _) | (with_reducible assumption) | (with_reducible refine kept_alloc ?_ _) | (with_reducible refine kept_drewN ?_ _) | (with_reducible refine Below.drew ?_) | (with_reducible refine Below.setCell ?_ (by first | omega | (simp; omega) | (simp; done)) _) | (refine kept_trans ?_ (by with_reducible assumption)))))).mono ?_
    rintro e w1 ⟨rfl, hg1⟩
    have hcs : CellsAt w1 [(w.heap.size, 0, .int .i64 ep), (w.heap.size, 1, .slice p l.length k), (w.heap.size + 1, 0, .int .i64 0), (w.heap.size + 1, 1, .slice none 0 0)] := cells_keep hg1 (by (simp only [CellsAt]; (repeat' (first | exact trivial | (refine And.intro ?_ ?_))); all_goals (first | (focus ((try simp only [World.size_setCell, World.size_alloc]); omega)) | (repeat (first | rfl | assumption | (refine (World.cell?_alloc_past _ _ _ ?_).trans ?_; focus ((try simp only [World.size_setCell, World.size_alloc]); omega)) | (refine (World.cell?_alloc_at _ _ _ _ ?_).trans ?_; focus ((try simp only [World.size_setCell, World.size_alloc]); done)) | (refine (World.cell?_setCell_other _ _ _ _ ?_).trans ?_; focus (simp; done)) | (refine (World.cell?_setCell_other _ _ _ _ ?_).trans ?_; focus (simp; omega)) | (refine World.cell?_setCell_same' _ _ _ ?_; focus (simp; done))))))); have hq0 := hcs.1.2; have hq1 := hcs.2.1.2; have hq2 := hcs.2.2.1.2; have hq3 := hcs.2.2.2.1.2; have hz0 := hcs.1.1; have hz1 := hcs.2.2.1.1; have hfr : ∀ j, w1.frozen? ⟨w.heap.size + 1, j, none⟩ = false := fun j => ((bcell hg1).2 _ _ (by simp)).trans (World.frozen?_alloc_at _ _ _ _ (by simp))
    go_wp2_with fail
    refine (ekept_any ep l p k _ (H.out.kept (by repeat' (first | (with_reducible exact Below.refl _ _) | (with_reducible assumption) | (with_reducible refine kept_alloc ?_ _) | (with_reducible refine kept_drewN ?_ _) | (with_reducible refine Below.drew ?_) | (with_reducible refine Below.setCell ?_ (by first | omega | (simp; omega) | (simp; done)) _) | (refine kept_trans ?_ (by with_reducible assumption))))) hm).mono ?_
    rintro e w2 ⟨p2, k2, rfl, hO2, hg2⟩
    have hfr2 : ∀ j, w2.frozen? ⟨w.heap.size + 1, j, none⟩ = false := fun j => ((bcell hg2).2 _ _ hz1).trans (hfr j); have hz1' : w.heap.size + 1 < w1.heap.size := hz1; have hcs := cells_keep hg2 hcs; clear hq0 hq1 hq2 hq3 hz0 hz1 hfr; have hq0 := hcs.1.2; have hq1 := hcs.2.1.2; have hq2 := hcs.2.2.1.2; have hq3 := hcs.2.2.2.1.2; have hz0 := hcs.1.1; have hz1 := hcs.2.2.1.1
    go_wp2
    refine bodyPost_ret (v := .tuple #[.agg #[.int .i64 ep, .slice p2 l.length k2], .bool false, .int .i64 40]) (by simp [results, Tryz.results160, go_sem, *]) rfl ?_
    have hB : Below w.heap.size w w2 := by repeat' (first | (with_reducible exact Below.refl _ _) | (with_reducible assumption) | (with_reducible refine kept_alloc ?_ _) | (with_reducible refine kept_drewN ?_ _) | (with_reducible refine Below.drew ?_) | (with_reducible refine Below.setCell ?_ (by first | omega | (simp; omega) | (simp; done)) _) | (refine kept_trans ?_ (by with_reducible assumption)))
    exact ⟨p2, k2, rfl, (Ow.mono ((hO2.setCell (p := ⟨_, _, none⟩) hz1' _).setCell (p := ⟨_, _, none⟩) hz1' _) (by omega)), (((hB).setCell (p := ⟨_, _, none⟩) (Nat.le_succ _) _).setCell (p := ⟨_, _, none⟩) (Nat.le_succ _) _)⟩
  · obtain ⟨e1, e2⟩ := cm_ok (s := s) (i := i) hok
    have HO := Lib.hid hok
    obtain ⟨c, hc⟩ : ∃ c, entE l i = c := ⟨_, rfl⟩
    obtain ⟨r, hr⟩ : ∃ r, entL l i = r := ⟨_, rfl⟩
    have HC := Lib.hid (And.intro hr hc)
    by_cases hc0 : c = 0
    · subst hc0
      have hrl : r = l ++ [i] := by rw [← hr, ent_yes hc]
      cases hes : (ep == s)
      · have hne : (ep != s) = true := by simp at hes ⊢; exact hes
        have hL : cmL ep l s i = l := by unfold cmL; rw [e2, hes, Bool.and_false]; rfl
        rw [e1, e2, hL, hc, hes, Bool.and_false]
        clear hok e1 e2 hL hc hr hrl
        go_enter Tryz.func160, Tryz.ntmps160; go_wp2_with fail; refine (echeck_val HO.out p k _ (H.out.kept (by repeat' (first | (with_reducible exact Below.refl _ _) | (with_reducible assumption) | (with_reducible refine kept_alloc ?_ _) | (with_reducible refine kept_drewN ?_ _) | (with_reducible refine Below.drew ?_) | (with_reducible refine Below.setCell ?_ (by first | omega | (simp; omega) | (simp; done)) _) | (refine kept_trans ?_ (by with_reducible assumption)))))).mono ?_; rintro e w1 ⟨rfl, hg1⟩; have hcs : CellsAt w1 [(w.heap.size, 0, .int .i64 ep), (w.heap.size, 1, .slice p l.length k), (w.heap.size + 1, 0, .int .i64 0), (w.heap.size + 1, 1, .slice none 0 0)] := cells_keep hg1 (by (simp only [CellsAt]; (repeat' (first | exact trivial | (refine And.intro ?_ ?_))); all_goals (first | (focus ((try simp only [World.size_setCell, World.size_alloc]); omega)) | (repeat (first | rfl | assumption | (refine (World.cell?_alloc_past _ _ _ ?_).trans ?_; focus ((try simp only [World.size_setCell, World.size_alloc]); omega)) | (refine (World.cell?_alloc_at _ _ _ _ ?_).trans ?_; focus ((try simp only [World.size_setCell, World.size_alloc]); done)) | (refine (World.cell?_setCell_other _ _ _ _ ?_).trans ?_; focus (simp; done)) | (refine (World.cell?_setCell_other _ _ _ _ ?_).trans ?_; focus (simp; omega)) | (refine World.cell?_setCell_same' _ _ _ ?_; focus (simp; done))))))); have hq0 := hcs.1.2; have hq1 := hcs.2.1.2; have hq2 := hcs.2.2.1.2; have hq3 := hcs.2.2.2.1.2; have hz0 := hcs.1.1; have hz1 := hcs.2.2.1.1; have hfr : ∀ j, w1.frozen? ⟨w.heap.size + 1, j, none⟩ = false := fun j => ((bcell hg1).2 _ _ (by simp)).trans (World.frozen?_alloc_at _ _ _ _ (by simp)); go_wp2_with fail; refine (lenter_oval' HC.out.1 HC.out.2 p k _ (H.out.kept (by repeat' (first | (with_reducible exact Below.refl _ _) | (with_reducible assumption) | (with_reducible refine kept_alloc ?_ _) | (with_reducible refine kept_drewN ?_ _) | (with_reducible refine Below.drew ?_) | (with_reducible refine Below.setCell ?_ (by first | omega | (simp; omega) | (simp; done)) _) | (refine kept_trans ?_ (by with_reducible assumption))))) hm).mono ?_; rintro e w2 ⟨p2, k2, rfl, hO2, hg2⟩; have hfr2 : ∀ j, w2.frozen? ⟨w.heap.size + 1, j, none⟩ = false := fun j => ((bcell hg2).2 _ _ hz1).trans (hfr j); have hz1' : w.heap.size + 1 < w1.heap.size := hz1; have hcs := cells_keep hg2 hcs; clear hq0 hq1 hq2 hq3 hz0 hz1 hfr; have hq0 := hcs.1.2; have hq1 := hcs.2.1.2; have hq2 := hcs.2.2.1.2; have hq3 := hcs.2.2.2.1.2; have hz0 := hcs.1.1; have hz1 := hcs.2.2.1.1; have hB2 : Below w.heap.size w w2 := (by repeat' (first | (with_reducible exact Below.refl _ _) | (with_reducible assumption) | (with_reducible refine kept_alloc ?_ _) | (with_reducible refine kept_drewN ?_ _) | (with_reducible refine Below.drew ?_) | (with_reducible refine Below.setCell ?_ (by first | omega | (simp; omega) | (simp; done)) _) | (refine kept_trans ?_ (by with_reducible assumption)))); clear hg1 hg2
        go_wp2_with fail
        refine (ekept_any ep l p k _ (H.out.kept (by repeat' (first | (with_reducible exact Below.refl _ _) | (with_reducible assumption) | (with_reducible refine kept_alloc ?_ _) | (with_reducible refine kept_drewN ?_ _) | (with_reducible refine Below.drew ?_) | (with_reducible refine Below.setCell ?_ (by first | omega | (simp; omega) | (simp; done)) _) | (refine kept_trans ?_ (by with_reducible assumption))))) hm).mono ?_
        rintro e w3 ⟨p3, k3, rfl, hO3, hg3⟩
        have hfr3 : ∀ j, w3.frozen? ⟨w.heap.size + 1, j, none⟩ = false := fun j => ((bcell hg3).2 _ _ hz1).trans (hfr2 j); have hz2' : w.heap.size + 1 < w2.heap.size := hz1; have hcs := cells_keep hg3 hcs; clear hq0 hq1 hq2 hq3 hz0 hz1 hfr2; have hq0 := hcs.1.2; have hq1 := hcs.2.1.2; have hq2 := hcs.2.2.1.2; have hq3 := hcs.2.2.2.1.2; have hz0 := hcs.1.1; have hz1 := hcs.2.2.1.1
        go_wp2
        refine bodyPost_ret (v := .tuple #[.agg #[.int .i64 ep, .slice p3 l.length k3], .bool false, .int .i64 0]) (by simp [results, Tryz.results160, go_sem, *]) rfl ?_
        have hB : Below w.heap.size w w3 := kept_trans hB2 hg3
        exact ⟨p3, k3, rfl, (Ow.mono ((hO3.setCell (p := ⟨_, _, none⟩) hz2' _).setCell (p := ⟨_, _, none⟩) hz2' _) (by omega)), (((hB).setCell (p := ⟨_, _, none⟩) (Nat.le_succ _) _).setCell (p := ⟨_, _, none⟩) (Nat.le_succ _) _)⟩
      · have hne : (ep != s) = false := by simp at hes ⊢; exact hes
        have hL : cmL ep l s i = r := by unfold cmL; rw [e2, hes, hc, hrl]; rfl
        rw [e1, e2, hL, hc, hes, Bool.and_true, show ((0 : Int) == 0) = true by rfl]
        clear hok e1 e2 hL hc hr hrl
        go_enter Tryz.func160, Tryz.ntmps160; go_wp2_with fail; refine (echeck_val HO.out p k _ (H.out.kept (by repeat' (first | (with_reducible exact Below.refl _ _) | (with_reducible assumption) | (with_reducible refine kept_alloc ?_ _) | (with_reducible refine kept_drewN ?_ _) | (with_reducible refine Below.drew ?_) | (with_reducible refine Below.setCell ?_ (by first | omega | (simp; omega) | (simp; done)) _) | (refine kept_trans ?_ (by with_reducible assumption)))))).mono ?_; rintro e w1 ⟨rfl, hg1⟩; have hcs : CellsAt w1 [(w.heap.size, 0, .int .i64 ep), (w.heap.size, 1, .slice p l.length k), (w.heap.size + 1, 0, .int .i64 0), (w.heap.size + 1, 1, .slice none 0 0)] := cells_keep hg1 (by (simp only [CellsAt]; (repeat' (first | exact trivial | (refine And.intro ?_ ?_))); all_goals (first | (focus ((try simp only [World.size_setCell, World.size_alloc]); omega)) | (repeat (first | rfl | assumption | (refine (World.cell?_alloc_past _ _ _ ?_).trans ?_; focus ((try simp only [World.size_setCell, World.size_alloc]); omega)) | (refine (World.cell?_alloc_at _ _ _ _ ?_).trans ?_; focus ((try simp only [World.size_setCell, World.size_alloc]); done)) | (refine (World.cell?_setCell_other _ _ _ _ ?_).trans ?_; focus (simp; done)) | (refine (World.cell?_setCell_other _ _ _ _ ?_).trans ?_; focus (simp; omega)) | (refine World.cell?_setCell_same' _ _ _ ?_; focus (simp; done))))))); have hq0 := hcs.1.2; have hq1 := hcs.2.1.2; have hq2 := hcs.2.2.1.2; have hq3 := hcs.2.2.2.1.2; have hz0 := hcs.1.1; have hz1 := hcs.2.2.1.1; have hfr : ∀ j, w1.frozen? ⟨w.heap.size + 1, j, none⟩ = false := fun j => ((bcell hg1).2 _ _ (by simp)).trans (World.frozen?_alloc_at _ _ _ _ (by simp)); go_wp2_with fail; refine (lenter_oval' HC.out.1 HC.out.2 p k _ (H.out.kept (by repeat' (first | (with_reducible exact Below.refl _ _) | (with_reducible assumption) | (with_reducible refine kept_alloc ?_ _) | (with_reducible refine kept_drewN ?_ _) | (with_reducible refine Below.drew ?_) | (with_reducible refine Below.setCell ?_ (by first | omega | (simp; omega) | (simp; done)) _) | (refine kept_trans ?_ (by with_reducible assumption))))) hm).mono ?_; rintro e w2 ⟨p2, k2, rfl, hO2, hg2⟩; have hfr2 : ∀ j, w2.frozen? ⟨w.heap.size + 1, j, none⟩ = false := fun j => ((bcell hg2).2 _ _ hz1).trans (hfr j); have hz1' : w.heap.size + 1 < w1.heap.size := hz1; have hcs := cells_keep hg2 hcs; clear hq0 hq1 hq2 hq3 hz0 hz1 hfr; have hq0 := hcs.1.2; have hq1 := hcs.2.1.2; have hq2 := hcs.2.2.1.2; have hq3 := hcs.2.2.2.1.2; have hz0 := hcs.1.1; have hz1 := hcs.2.2.1.1; have hB2 : Below w.heap.size w w2 := (by repeat' (first | (with_reducible exact Below.refl _ _) | (with_reducible assumption) | (with_reducible refine kept_alloc ?_ _) | (with_reducible refine kept_drewN ?_ _) | (with_reducible refine Below.drew ?_) | (with_reducible refine Below.setCell ?_ (by first | omega | (simp; omega) | (simp; done)) _) | (refine kept_trans ?_ (by with_reducible assumption)))); clear hg1 hg2
        go_wp2
        refine bodyPost_ret (v := .tuple #[.agg #[.int .i64 ep, .slice p2 r.length k2], .bool true, .int .i64 0]) (by simp [results, Tryz.results160, go_sem, *]) rfl ?_
        exact ⟨p2, k2, rfl, (Ow.mono ((hO2.setCell (p := ⟨_, _, none⟩) hz1' _).setCell (p := ⟨_, _, none⟩) hz1' _) (by omega)), (((hB2).setCell (p := ⟨_, _, none⟩) (Nat.le_succ _) _).setCell (p := ⟨_, _, none⟩) (Nat.le_succ _) _)⟩
    · have hcn : (c != 0) = true := by simpa using hc0
      have hcb : (c == 0) = false := by simpa using hc0
      have hL : cmL ep l s i = l := by unfold cmL; rw [e2, hc, hcb]; rfl
      rw [e1, e2, hL, hc, hcb, Bool.false_and]
      clear hok e1 e2 hL hc hr
      go_enter Tryz.func160, Tryz.ntmps160; go_wp2_with fail; refine (echeck_val HO.out p k _ (H.out.kept (by repeat' (first | (with_reducible exact Below.refl _ _) | (with_reducible assumption) | (with_reducible refine kept_alloc ?_ _) | (with_reducible refine kept_drewN ?_ _) | (with_reducible refine Below.drew ?_) | (with_reducible refine Below.setCell ?_ (by first | omega | (simp; omega) | (simp; done)) _) | (refine kept_trans ?_ (by with_reducible assumption)))))).mono ?_; rintro e w1 ⟨rfl, hg1⟩; have hcs : CellsAt w1 [(w.heap.size, 0, .int .i64 ep), (w.heap.size, 1, .slice p l.length k), (w.heap.size + 1, 0, .int .i64 0), (w.heap.size + 1, 1, .slice none 0 0)] := cells_keep hg1 (by (simp only [CellsAt]; (repeat' (first | exact trivial | (refine And.intro ?_ ?_))); all_goals (first | (focus ((try simp only [World.size_setCell, World.size_alloc]); omega)) | (repeat (first | rfl | assumption | (refine (World.cell?_alloc_past _ _ _ ?_).trans ?_; focus ((try simp only [World.size_setCell, World.size_alloc]); omega)) | (refine (World.cell?_alloc_at _ _ _ _ ?_).trans ?_; focus ((try simp only [World.size_setCell, World.size_alloc]); done)) | (refine (World.cell?_setCell_other _ _ _ _ ?_).trans ?_; focus (simp; done)) | (refine (World.cell?_setCell_other _ _ _ _ ?_).trans ?_; focus (simp; omega)) | (refine World.cell?_setCell_same' _ _ _ ?_; focus (simp; done))))))); have hq0 := hcs.1.2; have hq1 := hcs.2.1.2; have hq2 := hcs.2.2.1.2; have hq3 := hcs.2.2.2.1.2; have hz0 := hcs.1.1; have hz1 := hcs.2.2.1.1; have hfr : ∀ j, w1.frozen? ⟨w.heap.size + 1, j, none⟩ = false := fun j => ((bcell hg1).2 _ _ (by simp)).trans (World.frozen?_alloc_at _ _ _ _ (by simp)); go_wp2_with fail; refine (lenter_oval' HC.out.1 HC.out.2 p k _ (H.out.kept (by repeat' (first | (with_reducible exact Below.refl _ _) | (with_reducible assumption) | (with_reducible refine kept_alloc ?_ _) | (with_reducible refine kept_drewN ?_ _) | (with_reducible refine Below.drew ?_) | (with_reducible refine Below.setCell ?_ (by first | omega | (simp; omega) | (simp; done)) _) | (refine kept_trans ?_ (by with_reducible assumption))))) hm).mono ?_; rintro e w2 ⟨p2, k2, rfl, hO2, hg2⟩; have hfr2 : ∀ j, w2.frozen? ⟨w.heap.size + 1, j, none⟩ = false := fun j => ((bcell hg2).2 _ _ hz1).trans (hfr j); have hz1' : w.heap.size + 1 < w1.heap.size := hz1; have hcs := cells_keep hg2 hcs; clear hq0 hq1 hq2 hq3 hz0 hz1 hfr; have hq0 := hcs.1.2; have hq1 := hcs.2.1.2; have hq2 := hcs.2.2.1.2; have hq3 := hcs.2.2.2.1.2; have hz0 := hcs.1.1; have hz1 := hcs.2.2.1.1; have hB2 : Below w.heap.size w w2 := (by repeat' (first | (with_reducible exact Below.refl _ _) | (with_reducible assumption) | (with_reducible refine kept_alloc ?_ _) | (with_reducible refine kept_drewN ?_ _) | (with_reducible refine Below.drew ?_) | (with_reducible refine Below.setCell ?_ (by first | omega | (simp; omega) | (simp; done)) _) | (refine kept_trans ?_ (by with_reducible assumption)))); clear hg1 hg2
      go_wp2_with fail
      refine (ekept_any ep l p k _ (H.out.kept (by repeat' (first | (with_reducible exact Below.refl _ _) | (with_reducible assumption) | (with_reducible refine kept_alloc ?_ _) | (with_reducible refine kept_drewN ?_ _) | (with_reducible refine Below.drew ?_) | (with_reducible refine Below.setCell ?_ (by first | omega | (simp; omega) | (simp; done)) _) | (refine kept_trans ?_ (by with_reducible assumption))))) hm).mono ?_
      rintro e w3 ⟨p3, k3, rfl, hO3, hg3⟩
      have hfr3 : ∀ j, w3.frozen? ⟨w.heap.size + 1, j, none⟩ = false := fun j => ((bcell hg3).2 _ _ hz1).trans (hfr2 j); have hz2' : w.heap.size + 1 < w2.heap.size := hz1; have hcs := cells_keep hg3 hcs; clear hq0 hq1 hq2 hq3 hz0 hz1 hfr2; have hq0 := hcs.1.2; have hq1 := hcs.2.1.2; have hq2 := hcs.2.2.1.2; have hq3 := hcs.2.2.2.1.2; have hz0 := hcs.1.1; have hz1 := hcs.2.2.1.1
      go_wp2
      refine bodyPost_ret (v := .tuple #[.agg #[.int .i64 ep, .slice p3 l.length k3], .bool false, .int .i64 c]) (by simp [results, Tryz.results160, go_sem, *]) rfl ?_
      have hB : Below w.heap.size w w3 := kept_trans hB2 hg3
      exact ⟨p3, k3, rfl, (Ow.mono ((hO3.setCell (p := ⟨_, _, none⟩) hz2' _).setCell (p := ⟨_, _, none⟩) hz2' _) (by omega)), (((hB).setCell (p := ⟨_, _, none⟩) (Nat.le_succ _) _).setCell (p := ⟨_, _, none⟩) (Nat.le_succ _) _)⟩

end Go.Proofs.YtjbcfjfnobklkaaGreat

/- Contracts told by abstract values: the word, by the engine (in place of the walks of XWordC and XWordD). -/
namespace Go.Proofs.YtjbcfjfnobklkaaGreat
set_option linter.unusedVariables false
set_option linter.unusedSimpArgs false
open Go.RowKit
theorem two_is {f : Operand → Value} {x y : Operand} {a b : Value} (h : [x, y].map f = [a, b]) : f x = a ∧ f y = b := by simpa using h
theorem guard_agg {t : TypeId} (hg : Tryz.prog.eqGuardType Tryz.prog.depth t = false) (x y : Operand) (a b : Array Value) (W : World) : (eqGuard .neq t x y (.agg a) (.agg b)).run Tryz.prog W = .ok () W ∧ (eqGuard .eql t x y (.agg a) (.agg b)).run Tryz.prog W = .ok () W := by
  constructor <;> simp [eqGuard, hg]
theorem ask_bin {t : TypeId} {bo : BinOp} {a b : Array Value} {r : Value} (hg : ∀ x y W, (eqGuard bo t x y (.agg a) (.agg b)).run Tryz.prog W = .ok () W) (h : ∀ W, (binOp bo t (.agg a) (.agg b)).run Tryz.prog W = .ok r W) (x y : Operand) : AskP Tryz.prog (.binOp bo t x y t) [.agg a, .agg b] r := by
  intro W o f ho hm
  obtain ⟨h1, h2⟩ := two_is hm
  simp [execOp, ho, h1, h2, hg, h]
section
variable {h t m r : Int}
theorem ac_poschk {b : Bool} (hb : checkB h t m r = b) (hh : In64 h) (ht : In64 t) (hm : In64 m) (hr : In64 r) : AC Tryz.prog 108 [wdT h t m, .int .i64 r] (.bool b) := by
  intro O W vs hl hat ; obtain ⟨ys, rfl, _, _, rfl, h0, _, _, rfl, h1, rfl⟩ := args_of hat
  rw [rp_wdT] at h0
  rw [rp_int] at h1
  subst h0 h1
  refine (check_any h t m r hh ht hm hr W).mono ?_
  rintro e W' ⟨rfl, hk⟩
  exact ⟨_, rfl, rp_bool.2 (by rw [hb]), hk⟩
theorem ac_posfull {b : Bool} (hb : fullB h t r = b) (hh : In64 h) (ht : In64 t) : AC Tryz.prog 245 [wdT h t m, .int .i64 r] (.bool b) := by
  intro O W vs hl hat ; obtain ⟨ys, rfl, _, _, rfl, h0, _, _, rfl, h1, rfl⟩ := args_of hat
  rw [rp_wdT] at h0
  rw [rp_int] at h1
  subst h0 h1
  refine (full_any h t m r hh ht W).mono ?_
  rintro e W' ⟨rfl, hk⟩
  exact ⟨_, rfl, rp_bool.2 (by rw [hb]), hk⟩
set_option maxRecDepth 100000 in
theorem ew_accept (hh : In64 h) (ht : In64 t) (hm : In64 m) (hr : In64 r) : AC Tryz.prog 231 [wdT h t m, .int .i64 r] (.tuple #[wdT h (acT h t m r) m, .int .i64 (acP h t m r), .int .i64 (acR h t m r)]) := by
  have no : acR h t m r ≠ 1 → acT h t m r = t ∧ acP h t m r = 0 := fun e => by simp [acT, acP, e]
  by_cases h2 : m = 2
  · have e : acR h t m r = 7 := by simp [acR, haltB, h2]
    rw [(no (by omega)).1, (no (by omega)).2, e]
    exact ac_path mixed (ext := [108, 245]) (fuel := 9) (n := 6) (orc := [.bool true]) (an (show (m == 2) = true by simp [h2]) trivial) (by kernel_rfl)
  · cases hc : checkB h t m r
    · have e : acR h t m r = 7 := by simp [acR, haltB, hc]
      rw [(no (by omega)).1, (no (by omega)).2, e]
      exact ac_path mixed (ext := [108, 245]) (fuel := 9) (n := 6) (orc := [.bool false, vD false]) (an (show (m == 2) = false by simp [h2]) <| an (ac_poschk hc hh ht hm hr) trivial) (by kernel_rfl)
    · have hH : haltB h t m r = false := by simp [haltB, h2, hc]
      by_cases h1 : m = 1
      · have e : acR h t m r = 6 := by unfold acR; rw [hH]; simp [h1]
        rw [(no (by omega)).1, (no (by omega)).2, e]
        exact ac_path mixed (ext := [108, 245]) (fuel := 9) (n := 6) (orc := [.bool false, vD true, .bool true]) (an (show (m == 2) = false by simp [h2]) <| an (ac_poschk hc hh ht hm hr) <| an (show (m == 1) = true by simp [h1]) trivial) (by kernel_rfl)
      · cases hf : fullB h t r
        · by_cases h3 : t = 1099511627776
          · have e : acR h t m r = 2 := by unfold acR; rw [hH]; simp [h1, h3]
            rw [(no (by omega)).1, (no (by omega)).2, e]
            exact ac_path mixed (ext := [108, 245]) (fuel := 9) (n := 6) (orc := [.bool false, vD true, .bool false, vD false, .bool true]) (an (show (m == 2) = false by simp [h2]) <| an (ac_poschk hc hh ht hm hr) <| an (show (m == 1) = false by simp [h1]) <| an (ac_posfull (m := m) hf hh ht) <| an (show (t == 1099511627776) = true by simp [h3]) trivial) (by kernel_rfl)
          · have e : acR h t m r = 1 := by unfold acR; rw [hH, hf]; simp [h1, h3]
            rw [show acT h t m r = t + 1 by simp [acT, e], show acP h t m r = t by simp [acP, e], e]
            have hb : t ≤ 1099511627776 := by simp only [checkB, Bool.and_eq_true, decide_eq_true_eq] at hc; omega
            exact ac_path mixed (ext := [108, 245]) (fuel := 9) (n := 6) (orc := [.bool false, vD true, .bool false, vD false, .bool false]) (an (show (m == 2) = false by simp [h2]) <| an (ac_poschk hc hh ht hm hr) <| an (show (m == 1) = false by simp [h1]) <| an (ac_posfull (m := m) hf hh ht) <| an (show (t == 1099511627776) = false by simp [h3]) <| an (show In64 (t + 1) by have := ht; simp only [In64] at this ⊢; omega) trivial) (by kernel_rfl)
        · have e : acR h t m r = 2 := by unfold acR; rw [hH, hf]; simp [h1]
          rw [(no (by omega)).1, (no (by omega)).2, e]
          exact ac_path mixed (ext := [108, 245]) (fuel := 9) (n := 6) (orc := [.bool false, vD true, .bool false, vD true]) (an (show (m == 2) = false by simp [h2]) <| an (ac_poschk hc hh ht hm hr) <| an (show (m == 1) = false by simp [h1]) <| an (ac_posfull (m := m) hf hh ht) trivial) (by kernel_rfl)
theorem ac_poslen (hh : In64 h) (ht : In64 t) : AC Tryz.prog 65 [wdT h t m] (.int .i64 (lenI h t)) := by
  intro O W vs hl hat
  obtain ⟨ys, rfl, _, _, rfl, h0, rfl⟩ := args_of hat
  rw [rp_wdT] at h0
  subst h0
  refine (len_any h t m hh ht W).mono ?_
  rintro e W' ⟨rfl, hk⟩
  exact ⟨_, rfl, rp_int.2 rfl, hk⟩
set_option maxRecDepth 100000 in
theorem ew_take (hh : In64 h) (ht : In64 t) (hm : In64 m) (hr : In64 r) : AC Tryz.prog 154 [wdT h t m, .int .i64 r] (.tuple #[wdT (tkH h t m r) t m, .int .i64 (tkP h t m r), .int .i64 (tkR h t m r)]) := by
  by_cases h2 : m = 2
  · have e : tkR h t m r = 7 := by simp [tkR, haltB, h2]
    rw [(tk_n (by omega)).1, (tk_n (by omega)).2, e]
    exact ac_path mixed (ext := [108, 65]) (fuel := 9) (n := 6) (orc := [.bool true]) (an (show (m == 2) = true by simp [h2]) trivial) (by kernel_rfl)
  · cases hc : checkB h t m r
    · have e : tkR h t m r = 7 := by simp [tkR, haltB, hc]
      rw [(tk_n (by omega)).1, (tk_n (by omega)).2, e]
      exact ac_path mixed (ext := [108, 65]) (fuel := 9) (n := 6) (orc := [.bool false, vD false]) (an (show (m == 2) = false by simp [h2]) <| an (ac_poschk hc hh ht hm hr) trivial) (by kernel_rfl)
    · have hH : haltB h t m r = false := by simp [haltB, h2, hc]
      by_cases hs : 0 < lenI h t
      · have e : tkR h t m r = 1 := by unfold tkR; rw [hH]; simp [someB, hs]
        rw [(tk_y e).1, (tk_y e).2, e]
        have hb : h ≤ t := by simp only [checkB, Bool.and_eq_true, decide_eq_true_eq] at hc; omega
        have hb2 : t ≤ 1099511627776 := by simp only [checkB, Bool.and_eq_true, decide_eq_true_eq] at hc; omega
        exact ac_path mixed (ext := [108, 65]) (fuel := 9) (n := 6) (orc := [.bool false, vD true, .int .i64 (lenI h t), .bool true]) (an (show (m == 2) = false by simp [h2]) <| an (ac_poschk hc hh ht hm hr) <| an (ac_poslen (m := m) hh ht) <| an (show decide (0 < lenI h t) = true by simp [hs]) <| an (show In64 (h + 1) by have := hh; simp only [In64] at this ⊢; omega) trivial) (by kernel_rfl)
      · by_cases h1 : m = 1
        · have e : tkR h t m r = 6 := by unfold tkR; rw [hH]; simp [someB, hs, h1]
          rw [(tk_n (by omega)).1, (tk_n (by omega)).2, e]
          exact ac_path mixed (ext := [108, 65]) (fuel := 9) (n := 6) (orc := [.bool false, vD true, .int .i64 (lenI h t), .bool false, .bool true]) (an (show (m == 2) = false by simp [h2]) <| an (ac_poschk hc hh ht hm hr) <| an (ac_poslen (m := m) hh ht) <| an (show decide (0 < lenI h t) = false by simp [hs]) <| an (show (m == 1) = true by simp [h1]) trivial) (by kernel_rfl)
        · have e : tkR h t m r = 4 := by unfold tkR; rw [hH]; simp [someB, hs, h1]
          rw [(tk_n (by omega)).1, (tk_n (by omega)).2, e]
          exact ac_path mixed (ext := [108, 65]) (fuel := 9) (n := 6) (orc := [.bool false, vD true, .int .i64 (lenI h t), .bool false, .bool false]) (an (show (m == 2) = false by simp [h2]) <| an (ac_poschk hc hh ht hm hr) <| an (ac_poslen (m := m) hh ht) <| an (show decide (0 < lenI h t) = false by simp [hs]) <| an (show (m == 1) = false by simp [h1]) trivial) (by kernel_rfl)
set_option maxRecDepth 100000 in
theorem ew_sees (hh : In64 h) (ht : In64 t) (hm : In64 m) (hr : In64 r) : AC Tryz.prog 201 [wdT h t m, .int .i64 r] (.tuple #[.int .i64 (acR h t m r), .int .i64 (tkR h t m r)]) := by
  exact ac_path mixed (ext := [231, 154]) (fuel := 9) (n := 6) (orc := [.tuple #[wdT h (acT h t m r) m, .int .i64 (acP h t m r), .int .i64 (acR h t m r)], .tuple #[wdT (tkH h t m r) t m, .int .i64 (tkP h t m r), .int .i64 (tkR h t m r)]]) (an (ew_accept hh ht hm hr) <| an (ew_take hh ht hm hr) trivial) (by kernel_rfl)
theorem ask_wn {a b c d e f : Int} {q : Bool} (hq : (!decide ((⟨a, b, c⟩ : Wo3) = ⟨d, e, f⟩)) = q) (x y : Operand) : AskP Tryz.prog (.binOp .neq 25 x y 25) [wdT a b c, wdT d e f] (.bool q) :=
  ask_bin (fun x y W => (guard_agg (by kernel_rfl) x y _ _ W).1) (fun W => by rw [← hq]; exact wo_neq ⟨a, b, c⟩ ⟨d, e, f⟩ W) x y
set_option maxRecDepth 100000 in
theorem ew_evict {x : Int} (hh : In64 h) (ht : In64 t) (hm : In64 m) (hr : In64 r) : AC Tryz.prog 232 [wdT h t m, .int .i64 r, .int .i64 x] (.tuple #[wdT (evH h t m r x) t m, .bool (evwB h t m r x)]) := by
  have no : evwB h t m r x = false → evH h t m r x = h := fun e => by simp [evH, e]
  by_cases hx : h = x ∧ m = 0
  · have hn : (!decide ((⟨h, t, m⟩ : Wo3) = ⟨x, t, 0⟩)) = false := by simp [hx.1, hx.2]
    cases hc : checkB h t m r
    · have e : evwB h t m r x = false := by simp [evwB, hc]
      rw [no e, e]
      exact ac_path mixed (ext := [108, 245, 65]) (fuel := 9) (n := 6) (orc := [.bool false, .nilFunc, vD false]) (an (ask_wn hn (.tmp 13) (.tmp 14)) <| an (ac_poschk hc hh ht hm hr) trivial) (by kernel_rfl)
    · cases hf : fullB h t r
      · have e : evwB h t m r x = false := by simp [evwB, hf]
        rw [no e, e]
        exact ac_path mixed (ext := [108, 245, 65]) (fuel := 9) (n := 6) (orc := [.bool false, .nilFunc, vD true, vD false]) (an (ask_wn hn (.tmp 13) (.tmp 14)) <| an (ac_poschk hc hh ht hm hr) <| an (ac_posfull (m := m) hf hh ht) trivial) (by kernel_rfl)
      · by_cases hs : 0 < lenI h t
        · have e : evwB h t m r x = true := by
            unfold evwB someB
            rw [hc, hf]
            simp [hx.1, hx.2]
            rw [← hx.1]; exact hs
          rw [show evH h t m r x = h + 1 by simp [evH, e], e]
          have hb : h ≤ t ∧ t ≤ 1099511627776 := by simp only [checkB, Bool.and_eq_true, decide_eq_true_eq] at hc; omega
          exact ac_path mixed (ext := [108, 245, 65]) (fuel := 9) (n := 6) (orc := [.bool false, .nilFunc, vD true, vD true, .int .i64 (lenI h t), .bool false]) (an (ask_wn hn (.tmp 13) (.tmp 14)) <| an (ac_poschk hc hh ht hm hr) <| an (ac_posfull (m := m) hf hh ht) <| an (ac_poslen (m := m) hh ht) <| an (show (!decide (0 < lenI h t)) = false by simp [hs]) <| an (show In64 (h + 1) by have := hh; simp only [In64] at this ⊢; omega) trivial) (by kernel_rfl)
        · have e : evwB h t m r x = false := by simp [evwB, someB, hs]
          rw [no e, e]
          exact ac_path mixed (ext := [108, 245, 65]) (fuel := 9) (n := 6) (orc := [.bool false, .nilFunc, vD true, vD true, .int .i64 (lenI h t), .bool true]) (an (ask_wn hn (.tmp 13) (.tmp 14)) <| an (ac_poschk hc hh ht hm hr) <| an (ac_posfull (m := m) hf hh ht) <| an (ac_poslen (m := m) hh ht) <| an (show (!decide (0 < lenI h t)) = true by simp [hs]) trivial) (by kernel_rfl)
  · have e : evwB h t m r x = false := by
      cases he : evwB h t m r x
      · rfl
      · simp only [evwB, Bool.and_eq_true, beq_iff_eq] at he; exact absurd ⟨he.1.1.1.1, he.1.1.1.2⟩ hx
    rw [no e, e]
    exact ac_path mixed (ext := [108, 245, 65]) (fuel := 9) (n := 6) (orc := [.bool true, .nilFunc]) (an (ask_wn (show (!decide ((⟨h, t, m⟩ : Wo3) = ⟨x, t, 0⟩)) = true by simp; omega) (.tmp 13) (.tmp 14)) trivial) (by kernel_rfl)
/-! ### The document's -/
end
end Go.Proofs.YtjbcfjfnobklkaaGreat

/- Contracts of layer 2's functions over lists, and the document's room. -/
namespace Go.Proofs.YtjbcfjfnobklkaaGreat
set_option linter.unusedVariables false
set_option linter.unusedSimpArgs false
open Go.ChangeShapes Go.WideShapes Go.ChangeAt Go.RowKit

def Cf.may (c : Cf) : Bool := mayB c.lg c.th c.po c.wt c.sp c.yi
def Cf.room (c : Cf) : Int := roomI c.lg c.th c.po c.wt c.sp c.yi
def p2 (k : Nat) : Int := if k = 0 then 1 else pw k
end Go.Proofs.YtjbcfjfnobklkaaGreat

/- Layer 2: what every statement asks first. -/
namespace Go.Proofs.YtjbcfjfnobklkaaGreat
set_option linter.unusedVariables false
set_option linter.unusedSimpArgs false
open Go.ChangeShapes Go.WideShapes Go.ChangeAt Go.RowKit

end Go.Proofs.YtjbcfjfnobklkaaGreat

/- Plain functions of layer 7 (how one waits), the program's and the document's, and that they are one. -/
namespace Go.Proofs.YtjbcfjfnobklkaaGreat
set_option linter.unusedVariables false
set_option linter.unusedSimpArgs false

theorem wn_no {lg th po wt sp yi n : Int} (h : mayB lg th po wt sp yi = false) : wtnI lg th po wt sp yi n = 0 := by rw [wtnI, h]; rfl
theorem wn_yes {lg th po wt sp yi n : Int} (h : mayB lg th po wt sp yi = true) : wtnI lg th po wt sp yi n = wayI wt sp yi n := by rw [wtnI, if_pos h]
end Go.Proofs.YtjbcfjfnobklkaaGreat

/- Layer 7: the ways to wait, their table; the way of a configuration; what may be done, and how often something is. -/
namespace Go.Proofs.YtjbcfjfnobklkaaGreat
set_option linter.unusedVariables false
set_option linter.unusedSimpArgs false
open Go.ChangeShapes Go.WideShapes Go.ChangeAt Go.RowKit

theorem wbusy_any (lg th po wt sp yi n : Int) (si : Bool) (w : World) : Calls Tryz.prog 246 #[.agg #[.int .i64 lg, .int .i64 th, .int .i64 po, .int .i64 wt, .int .i64 sp, .int .i64 yi, .bool si], .int .i64 n] w fun e w' => e = .returned (.int .i64 0) ∧ Kept w w' := by
  go_enter Tryz.func246, Tryz.ntmps246
  go_wp2
  go_ret
  exact ⟨rfl, by repeat' (first | (with_reducible exact Below.refl _ _) | (with_reducible assumption) | (with_reducible refine kept_alloc ?_ _) | (with_reducible refine kept_drewN ?_ _) | (with_reducible refine Below.drew ?_) | (with_reducible refine Below.setCell ?_ (by first | omega | (simp; omega) | (simp; done)) _) | (refine kept_trans ?_ (by with_reducible assumption)))⟩
theorem wyielding_any (lg th po wt sp yi n : Int) (si : Bool) (w : World) : Calls Tryz.prog 247 #[.agg #[.int .i64 lg, .int .i64 th, .int .i64 po, .int .i64 wt, .int .i64 sp, .int .i64 yi, .bool si], .int .i64 n] w fun e w' => e = .returned (.int .i64 1) ∧ Kept w w' := by
  go_enter Tryz.func247, Tryz.ntmps247
  go_wp2
  go_ret
  exact ⟨rfl, by repeat' (first | (with_reducible exact Below.refl _ _) | (with_reducible assumption) | (with_reducible refine kept_alloc ?_ _) | (with_reducible refine kept_drewN ?_ _) | (with_reducible refine Below.drew ?_) | (with_reducible refine Below.setCell ?_ (by first | omega | (simp; omega) | (simp; done)) _) | (refine kept_trans ?_ (by with_reducible assumption)))⟩
theorem wparking_any (lg th po wt sp yi n : Int) (si : Bool) (w : World) : Calls Tryz.prog 249 #[.agg #[.int .i64 lg, .int .i64 th, .int .i64 po, .int .i64 wt, .int .i64 sp, .int .i64 yi, .bool si], .int .i64 n] w fun e w' => e = .returned (.int .i64 2) ∧ Kept w w' := by
  go_enter Tryz.func249, Tryz.ntmps249
  go_wp2
  go_ret
  exact ⟨rfl, by repeat' (first | (with_reducible exact Below.refl _ _) | (with_reducible assumption) | (with_reducible refine kept_alloc ?_ _) | (with_reducible refine kept_drewN ?_ _) | (with_reducible refine Below.drew ?_) | (with_reducible refine Below.setCell ?_ (by first | omega | (simp; omega) | (simp; done)) _) | (refine kept_trans ?_ (by with_reducible assumption)))⟩
def phI (sp yi n : Int) : Int := if n < sp then 0 else if n < sp + yi then 1 else 2
theorem wphased_any (lg th po wt sp yi n : Int) (si : Bool) (w : World) (h1 : 0 ≤ sp ∧ sp ≤ 8) (h2 : 0 ≤ yi ∧ yi ≤ 8) : Calls Tryz.prog 248 #[.agg #[.int .i64 lg, .int .i64 th, .int .i64 po, .int .i64 wt, .int .i64 sp, .int .i64 yi, .bool si], .int .i64 n] w fun e w' => e = .returned (.int .i64 (phI sp yi n)) ∧ Kept w w' := by
  have hw : IntKind.i64.wrap (sp + yi) = sp + yi := IntWalk.i64_in _ (by omega)
  by_cases c1 : n < sp
  · have hk : phI sp yi n = 0 := if_pos c1
    rw [hk]
    clear hk
    go_enter Tryz.func248, Tryz.ntmps248
    go_wp2
    all_goals (go_ret; exact ⟨rfl, by repeat' (first | (with_reducible exact Below.refl _ _) | (with_reducible assumption) | (with_reducible refine kept_alloc ?_ _) | (with_reducible refine kept_drewN ?_ _) | (with_reducible refine Below.drew ?_) | (with_reducible refine Below.setCell ?_ (by first | omega | (simp; omega) | (simp; done)) _) | (refine kept_trans ?_ (by with_reducible assumption)))⟩)
  · by_cases c2 : n < sp + yi
    · have hk : phI sp yi n = 1 := by unfold phI; rw [if_neg c1, if_pos c2]
      rw [hk]
      clear hk
      go_enter Tryz.func248, Tryz.ntmps248
      go_wp2
      all_goals (go_ret; exact ⟨rfl, by repeat' (first | (with_reducible exact Below.refl _ _) | (with_reducible assumption) | (with_reducible refine kept_alloc ?_ _) | (with_reducible refine kept_drewN ?_ _) | (with_reducible refine Below.drew ?_) | (with_reducible refine Below.setCell ?_ (by first | omega | (simp; omega) | (simp; done)) _) | (refine kept_trans ?_ (by with_reducible assumption)))⟩)
    · have hk : phI sp yi n = 2 := by unfold phI; rw [if_neg c1, if_neg c2]
      rw [hk]
      clear hk
      go_enter Tryz.func248, Tryz.ntmps248
      go_wp2
      all_goals (go_ret; exact ⟨rfl, by repeat' (first | (with_reducible exact Below.refl _ _) | (with_reducible assumption) | (with_reducible refine kept_alloc ?_ _) | (with_reducible refine kept_drewN ?_ _) | (with_reducible refine Below.drew ?_) | (with_reducible refine Below.setCell ?_ (by first | omega | (simp; omega) | (simp; done)) _) | (refine kept_trans ?_ (by with_reducible assumption)))⟩)

/-- The table of the ways. -/
def wfn (f : Nat) : Value := .func (.func f) #[] #[]
def waysL : List (Int × Value) := [(0, .func (.func 246) #[] #[]), (1, .func (.func 247) #[] #[]), (2, .func (.func 248) #[] #[]), (3, .func (.func 249) #[] #[])]
def RetM (L : List (Int × Value)) (w : World) (e : Ending) (w' : World) : Prop := ∃ mb, e = .returned (.map (some mb)) ∧ IMap w' mb L ∧ w.heap.size ≤ mb ∧ Kept w w'
theorem wways_any (w : World) : Calls Tryz.prog 236 #[] w (RetM waysL w) := by
  have hmm := @run_makeMap Tryz.prog
  have hu := Tryz.underlying188
  have hd := Tryz.underlying3
  obtain ⟨w1, u1, m1, s1, b1⟩ := imap_put hu hd (IMap.made w) 0 (.func (.func 246) #[] #[]) (by simp)
  obtain ⟨w2, u2, m2, s2, b2⟩ := imap_put hu hd m1 1 (.func (.func 247) #[] #[]) (by simp)
  obtain ⟨w3, u3, m3, s3, b3⟩ := imap_put hu hd m2 2 (.func (.func 248) #[] #[]) (by simp)
  obtain ⟨w4, u4, m4, s4, b4⟩ := imap_put hu hd m3 3 (.func (.func 249) #[] #[]) (by simp)
  have hB : Below w.heap.size w w4 := ((((Below.refl _ _).alloc (Nat.le_refl _) _).trans (b1 _ (Nat.le_refl _))).trans (b2 _ (Nat.le_refl _))).trans ((b3 _ (Nat.le_refl _)).trans (b4 _ (Nat.le_refl _)))
  have HE := Lib.hid (And.intro m4 hB)
  clear m1 m2 m3 m4 s1 s2 s3 s4 b1 b2 b3 b4 hB hu hd
  go_enter Tryz.func236, Tryz.ntmps236
  go_wp2
  go_ret
  exact ⟨_, rfl, HE.out.1, Nat.le_refl _, HE.out.2⟩

/-- The way of a configuration; of one that may not be: busy. -/
theorem wayof_yes (lg th po wt sp yi : Int) (si : Bool) (w : World) (hm : mayB lg th po wt sp yi = true) : Calls Tryz.prog 235 #[.agg #[.int .i64 lg, .int .i64 th, .int .i64 po, .int .i64 wt, .int .i64 sp, .int .i64 yi, .bool si]] w fun e w' => e = .returned (.agg #[.int .i64 lg, .int .i64 th, .int .i64 po, .int .i64 wt, .int .i64 sp, .int .i64 yi, .bool si]) ∧ Kept w w' := by
  have hk := ck_yes hm
  go_enter Tryz.func235, Tryz.ntmps235
  go_wp2_with (first | (go_at_call 52; refine (ccheck_any _ _ _ _ _ _ _ _).mono ?_; rintro e wx ⟨rfl, hgx⟩; obtain ⟨hcx, hfx⟩ := bcell hgx; have hz0 : w.heap.size < wx.heap.size := (by have := hgx.size; (try simp at this); omega); have hz1 : w.heap.size + 1 < wx.heap.size := (by have := hgx.size; (try simp at this); omega)))
  refine bodyPost_ret (v := .agg #[.int .i64 lg, .int .i64 th, .int .i64 po, .int .i64 wt, .int .i64 sp, .int .i64 yi, .bool si]) (by simp [results, Tryz.results235, go_sem, *]) rfl ?_
  exact ⟨rfl, by repeat' (first | (with_reducible exact Below.refl _ _) | (with_reducible assumption) | (with_reducible refine kept_alloc ?_ _) | (with_reducible refine kept_drewN ?_ _) | (with_reducible refine Below.drew ?_) | (with_reducible refine Below.setCell ?_ (by first | omega | (simp; omega) | (simp; done)) _) | (refine kept_trans ?_ (by with_reducible assumption)))⟩
theorem wayof_no (lg th po wt sp yi : Int) (si : Bool) (w : World) (hm : mayB lg th po wt sp yi = false) : Calls Tryz.prog 235 #[.agg #[.int .i64 lg, .int .i64 th, .int .i64 po, .int .i64 wt, .int .i64 sp, .int .i64 yi, .bool si]] w fun e w' => e = .returned (.agg #[.int .i64 0, .int .i64 0, .int .i64 0, .int .i64 0, .int .i64 0, .int .i64 0, .bool false]) ∧ Kept w w' := by
  have hk := ck_no hm
  go_enter Tryz.func235, Tryz.ntmps235
  go_wp2_with (first | (go_at_call 52; refine (ccheck_any _ _ _ _ _ _ _ _).mono ?_; rintro e wx ⟨rfl, hgx⟩; obtain ⟨hcx, hfx⟩ := bcell hgx; have hz0 : w.heap.size < wx.heap.size := (by have := hgx.size; (try simp at this); omega); have hz1 : w.heap.size + 1 < wx.heap.size := (by have := hgx.size; (try simp at this); omega)))
  refine bodyPost_ret (v := .agg #[.int .i64 0, .int .i64 0, .int .i64 0, .int .i64 0, .int .i64 0, .int .i64 0, .bool false]) (by simp [results, Tryz.results235, go_sem, *]) rfl ?_
  exact ⟨rfl, by repeat' (first | (with_reducible exact Below.refl _ _) | (with_reducible assumption) | (with_reducible refine kept_alloc ?_ _) | (with_reducible refine kept_drewN ?_ _) | (with_reducible refine Below.drew ?_) | (with_reducible refine Below.setCell ?_ (by first | omega | (simp; omega) | (simp; done)) _) | (refine kept_trans ?_ (by with_reducible assumption)))⟩
end Go.Proofs.YtjbcfjfnobklkaaGreat

/- Layer 7: how often something is in a list. -/
namespace Go.Proofs.YtjbcfjfnobklkaaGreat
set_option linter.unusedVariables false
set_option linter.unusedSimpArgs false
open Go.ChangeShapes Go.WideShapes Go.ChangeAt Go.RowKit

end Go.Proofs.YtjbcfjfnobklkaaGreat

/- Layer 7: Next. -/
namespace Go.Proofs.YtjbcfjfnobklkaaGreat
set_option linter.unusedVariables false
set_option linter.unusedSimpArgs false
open Go.ChangeShapes Go.WideShapes Go.ChangeAt Go.RowKit

/-- What the region's values are, in the text's order. -/
def NxF (yb : Nat) (ca cb cc cd ce cf : Int) (cg : Bool) (n m r : Int) (fn : Nat) : Nat → Value → World → Prop
  | 0, v, W => ∃ mb, v = .map (some mb) ∧ IMap W mb waysL
  | 1, v, _ => v = .pointer (some ⟨yb, 3, none⟩)
  | 2, v, _ => v = .int .i64 cd
  | 3, v, _ => v = .func (.func fn) #[] #[]
  | 4, v, _ => v = .agg #[.int .i64 ca, .int .i64 cb, .int .i64 cc, .int .i64 cd, .int .i64 ce, .int .i64 cf, .bool cg]
  | 5, v, _ => v = .int .i64 n
  | 6, v, _ => v = .int .i64 m
  | 7, v, _ => v = .int .i64 r
  | 8, v, _ => v = .int .i64 r
  | _, _, _ => True
theorem nxf_mono (yb : Nat) (ca cb cc cd ce cf : Int) (cg : Bool) (n m r : Int) (fn : Nat) (i : Nat) (v : Value) (W W' : World) (h : NxF yb ca cb cc cd ce cf cg n m r fn i v W) (hk : Below W.heap.size W W') : NxF yb ca cb cc cd ce cf cg n m r fn i v W' := by
  match i with
  | 0 => obtain ⟨mb, rfl, hM⟩ := h; exact ⟨mb, rfl, hM.kept hk⟩
  | 1 | 2 | 3 | 4 | 5 | 6 | 7 | 8 => exact h
  | _ + 9 => trivial
theorem ways_fn {i : Int} {fn : Nat} (h : (i, wfn fn) ∈ waysL) : fn = 246 ∨ fn = 247 ∨ fn = 248 ∨ fn = 249 := by
  simp [waysL, wfn] at h
  rcases h with ⟨_, h⟩ | ⟨_, h⟩ | ⟨_, h⟩ | ⟨_, h⟩ <;> simp [h]
theorem ways_nodup : (waysL.map (·.1)).Nodup := by decide

set_option maxHeartbeats 2000000 in
theorem next_core (lg th po wt sp yi : Int) (si : Bool) (ca cb cc cd ce cf : Int) (cg : Bool) (n m r : Int) (fn : Nat) (w : World) (hmn : m = max n 0)
    (hW : ∀ W, Calls Tryz.prog 235 #[.agg #[.int .i64 lg, .int .i64 th, .int .i64 po, .int .i64 wt, .int .i64 sp, .int .i64 yi, .bool si]] W fun e w' => e = .returned (.agg #[.int .i64 ca, .int .i64 cb, .int .i64 cc, .int .i64 cd, .int .i64 ce, .int .i64 cf, .bool cg]) ∧ Kept W w') (hk : (cd, wfn fn) ∈ waysL)
    (hF : ∀ W, Calls Tryz.prog fn #[.agg #[.int .i64 ca, .int .i64 cb, .int .i64 cc, .int .i64 cd, .int .i64 ce, .int .i64 cf, .bool cg], .int .i64 m] W fun e w' => e = .returned (.int .i64 r) ∧ Kept W w') :
    Calls Tryz.prog 203 #[.agg #[.int .i64 lg, .int .i64 th, .int .i64 po, .int .i64 wt, .int .i64 sp, .int .i64 yi, .bool si], .int .i64 n] w fun e w' => e = .returned (.int .i64 r) ∧ Kept w w' := by
  have HW := Lib.hid hW
  have HF := Lib.hid hF
  have HK := Lib.hid hk
  have HM := Lib.hid hmn
  clear hW hF hk hmn
  go_enter Tryz.func203, Tryz.ntmps203
  go_wp2_with fail
  refine (HW.out _).mono ?_
  rintro e w1 ⟨rfl, hg1⟩
  have hcs : CellsAt w1 [(w.heap.size, 0, .int .i64 lg), (w.heap.size, 1, .int .i64 th), (w.heap.size, 2, .int .i64 po), (w.heap.size, 3, .int .i64 wt), (w.heap.size, 4, .int .i64 sp), (w.heap.size, 5, .int .i64 yi), (w.heap.size, 6, .bool si)] := cells_keep hg1 (by (simp only [CellsAt]; (repeat' (first | exact trivial | (refine And.intro ?_ ?_))); all_goals (first | (focus ((try simp only [World.size_setCell, World.size_alloc]); omega)) | (repeat (first | rfl | assumption | (refine (World.cell?_alloc_past _ _ _ ?_).trans ?_; focus ((try simp only [World.size_setCell, World.size_alloc]); omega)) | (refine (World.cell?_alloc_at _ _ _ _ ?_).trans ?_; focus ((try simp only [World.size_setCell, World.size_alloc]); done)) | (refine (World.cell?_setCell_other _ _ _ _ ?_).trans ?_; focus (simp; done)) | (refine (World.cell?_setCell_other _ _ _ _ ?_).trans ?_; focus (simp; omega)) | (refine World.cell?_setCell_same' _ _ _ ?_; focus (simp; done)))))))
  have hB1 : Below w.heap.size w w1 := by repeat' (first | (with_reducible exact Below.refl _ _) | (with_reducible assumption) | (with_reducible refine kept_alloc ?_ _) | (with_reducible refine kept_drewN ?_ _) | (with_reducible refine Below.drew ?_) | (with_reducible refine Below.setCell ?_ (by first | omega | (simp; omega) | (simp; done)) _) | (refine kept_trans ?_ (by with_reducible assumption)))
  clear hg1
  go_wp2_with fail
  obtain ⟨V, hV⟩ : ∃ V, w1.alloc (.cells #[.int .i64 ca, .int .i64 cb, .int .i64 cc, .int .i64 cd, .int .i64 ce, .int .i64 cf, .bool cg] 185) = V := ⟨_, rfl⟩
  obtain ⟨yb, hyb⟩ : ∃ yb, w1.heap.size = yb := ⟨_, rfl⟩
  have hcs2 : CellsAt V [(yb, 0, .int .i64 ca), (yb, 1, .int .i64 cb), (yb, 2, .int .i64 cc), (yb, 3, .int .i64 cd), (yb, 4, .int .i64 ce), (yb, 5, .int .i64 cf), (yb, 6, .bool cg)] := by rw [← hV, ← hyb]; (simp only [CellsAt]; (repeat' (first | exact trivial | (refine And.intro ?_ ?_))); all_goals (first | (focus ((try simp only [World.size_setCell, World.size_alloc]); omega)) | (repeat (first | rfl | assumption | (refine (World.cell?_alloc_past _ _ _ ?_).trans ?_; focus ((try simp only [World.size_setCell, World.size_alloc]); omega)) | (refine (World.cell?_alloc_at _ _ _ _ ?_).trans ?_; focus ((try simp only [World.size_setCell, World.size_alloc]); done)) | (refine (World.cell?_setCell_other _ _ _ _ ?_).trans ?_; focus (simp; done)) | (refine (World.cell?_setCell_other _ _ _ _ ?_).trans ?_; focus (simp; omega)) | (refine World.cell?_setCell_same' _ _ _ ?_; focus (simp; done))))))
  have hB : Below w.heap.size w V := by rw [← hV]; repeat' (first | (with_reducible exact Below.refl _ _) | (with_reducible assumption) | (with_reducible refine kept_alloc ?_ _) | (with_reducible refine kept_drewN ?_ _) | (with_reducible refine Below.drew ?_) | (with_reducible refine Below.setCell ?_ (by first | omega | (simp; omega) | (simp; done)) _) | (refine kept_trans ?_ (by with_reducible assumption)))
  rw [hV, hyb]
  clear hcs hB1 hV hyb
  have hsz : yb < V.heap.size := hcs2.1.1
  have hcs := hcs2
  clear hcs2
  have hq0 := hcs.1.2; have hq1 := hcs.2.1.2; have hq2 := hcs.2.2.1.2; have hq3 := hcs.2.2.2.1.2; have hq4 := hcs.2.2.2.2.1.2; have hq5 := hcs.2.2.2.2.2.1.2; have hq6 := hcs.2.2.2.2.2.2.1.2; have hz0 := hcs.1.1
  have HB := Lib.hid hB
  clear hB
  refine wp_region_facts [8, 9, 10, 11, 12, 13, 14, 15, 4] (NxF yb ca cb cc cd ce cf cg n m r fn) (by kernel_rfl) (by kernel_rfl) rfl (by decide) (by intro d hd; show d < 16; revert d hd; decide) rfl (nxf_mono yb ca cb cc cd ce cf cg n m r fn) ?step ?fin
  case step =>
    intro i o ho b W h
    have e1 := h.base 1 (v := .int .i64 n) (by decide) rfl
    have e5 := h.base 5 (v := .pointer (some ⟨yb, 0, none⟩)) (by decide) rfl
    have c0 := (h.kept.cell (p := ⟨yb, 0, none⟩) hsz).trans hq0
    have c1 := (h.kept.cell (p := ⟨yb, 1, none⟩) hsz).trans hq1
    have c2 := (h.kept.cell (p := ⟨yb, 2, none⟩) hsz).trans hq2
    have c3 := (h.kept.cell (p := ⟨yb, 3, none⟩) hsz).trans hq3
    have c4 := (h.kept.cell (p := ⟨yb, 4, none⟩) hsz).trans hq4
    have c5 := (h.kept.cell (p := ⟨yb, 5, none⟩) hsz).trans hq5
    have c6 := (h.kept.cell (p := ⟨yb, 6, none⟩) hsz).trans hq6
    clear hq0 hq1 hq2 hq3 hq4 hq5 hq6 hcs
    have hi : i < 9 := (List.getElem?_eq_some_iff.1 ho).1
    obtain rfl | rfl | rfl | rfl | rfl | rfl | rfl | rfl | rfl : i = 0 ∨ i = 1 ∨ i = 2 ∨ i = 3 ∨ i = 4 ∨ i = 5 ∨ i = 6 ∨ i = 7 ∨ i = 8 := by omega
    all_goals cases ho
    · (have hzn : b.tmps.size = 16 := h.size; have hd0 : b.defers = [] := h.defers; rw [act_lit hzn hd0]; have hrr : List.range 16 = [0, 1, 2, 3, 4, 5, 6, 7, 8, 9, 10, 11, 12, 13, 14, 15] := rfl; simp only [hrr, List.map_cons, List.map_nil, e1]; clear hzn hd0 hrr; (try generalize b.tmps.getD 0 undef = u0); (try generalize b.tmps.getD 1 undef = u1); (try generalize b.tmps.getD 2 undef = u2); (try generalize b.tmps.getD 3 undef = u3); (try generalize b.tmps.getD 4 undef = u4); (try generalize b.tmps.getD 5 undef = u5); (try generalize b.tmps.getD 6 undef = u6); (try generalize b.tmps.getD 7 undef = u7); (try generalize b.tmps.getD 8 undef = u8); (try generalize b.tmps.getD 9 undef = u9); (try generalize b.tmps.getD 10 undef = u10); (try generalize b.tmps.getD 11 undef = u11); (try generalize b.tmps.getD 12 undef = u12); (try generalize b.tmps.getD 13 undef = u13); (try generalize b.tmps.getD 14 undef = u14); (try generalize b.tmps.getD 15 undef = u15))
      go_wp2_with (go_at_call 236; refine (wways_any _).mono ?_; rintro e wx ⟨mb, rfl, hM, hmb, hgx⟩)
      exact ⟨_, rfl, ⟨mb, rfl, hM⟩, hgx⟩
    · (have hzn : b.tmps.size = 16 := h.size; have hd0 : b.defers = [] := h.defers; rw [act_lit hzn hd0]; have hrr : List.range 16 = [0, 1, 2, 3, 4, 5, 6, 7, 8, 9, 10, 11, 12, 13, 14, 15] := rfl; simp only [hrr, List.map_cons, List.map_nil, e5]; clear hzn hd0 hrr; (try generalize b.tmps.getD 0 undef = u0); (try generalize b.tmps.getD 1 undef = u1); (try generalize b.tmps.getD 2 undef = u2); (try generalize b.tmps.getD 3 undef = u3); (try generalize b.tmps.getD 4 undef = u4); (try generalize b.tmps.getD 5 undef = u5); (try generalize b.tmps.getD 6 undef = u6); (try generalize b.tmps.getD 7 undef = u7); (try generalize b.tmps.getD 8 undef = u8); (try generalize b.tmps.getD 9 undef = u9); (try generalize b.tmps.getD 10 undef = u10); (try generalize b.tmps.getD 11 undef = u11); (try generalize b.tmps.getD 12 undef = u12); (try generalize b.tmps.getD 13 undef = u13); (try generalize b.tmps.getD 14 undef = u14); (try generalize b.tmps.getD 15 undef = u15))
      go_wp2
      exact ⟨_, rfl, rfl, Below.refl _ _⟩
    · obtain ⟨_, g9, rfl⟩ := h.got 1 rfl rfl
      (have hzn : b.tmps.size = 16 := h.size; have hd0 : b.defers = [] := h.defers; rw [act_lit hzn hd0]; have hrr : List.range 16 = [0, 1, 2, 3, 4, 5, 6, 7, 8, 9, 10, 11, 12, 13, 14, 15] := rfl; simp only [hrr, List.map_cons, List.map_nil, g9]; clear hzn hd0 hrr; (try generalize b.tmps.getD 0 undef = u0); (try generalize b.tmps.getD 1 undef = u1); (try generalize b.tmps.getD 2 undef = u2); (try generalize b.tmps.getD 3 undef = u3); (try generalize b.tmps.getD 4 undef = u4); (try generalize b.tmps.getD 5 undef = u5); (try generalize b.tmps.getD 6 undef = u6); (try generalize b.tmps.getD 7 undef = u7); (try generalize b.tmps.getD 8 undef = u8); (try generalize b.tmps.getD 9 undef = u9); (try generalize b.tmps.getD 10 undef = u10); (try generalize b.tmps.getD 11 undef = u11); (try generalize b.tmps.getD 12 undef = u12); (try generalize b.tmps.getD 13 undef = u13); (try generalize b.tmps.getD 14 undef = u14); (try generalize b.tmps.getD 15 undef = u15))
      go_wp2
      exact ⟨_, rfl, rfl, Below.refl _ _⟩
    · obtain ⟨_, g8, mb, rfl, hM⟩ := h.got 0 rfl rfl
      obtain ⟨_, g10, rfl⟩ := h.got 2 rfl rfl
      have hlk := imap_look Tryz.underlying188 Tryz.underlying3 hM ways_nodup HK.out
      unfold wfn at hlk
      (have hzn : b.tmps.size = 16 := h.size; have hd0 : b.defers = [] := h.defers; rw [act_lit hzn hd0]; have hrr : List.range 16 = [0, 1, 2, 3, 4, 5, 6, 7, 8, 9, 10, 11, 12, 13, 14, 15] := rfl; simp only [hrr, List.map_cons, List.map_nil, g8, g10]; clear hzn hd0 hrr; (try generalize b.tmps.getD 0 undef = u0); (try generalize b.tmps.getD 1 undef = u1); (try generalize b.tmps.getD 2 undef = u2); (try generalize b.tmps.getD 3 undef = u3); (try generalize b.tmps.getD 4 undef = u4); (try generalize b.tmps.getD 5 undef = u5); (try generalize b.tmps.getD 6 undef = u6); (try generalize b.tmps.getD 7 undef = u7); (try generalize b.tmps.getD 8 undef = u8); (try generalize b.tmps.getD 9 undef = u9); (try generalize b.tmps.getD 10 undef = u10); (try generalize b.tmps.getD 11 undef = u11); (try generalize b.tmps.getD 12 undef = u12); (try generalize b.tmps.getD 13 undef = u13); (try generalize b.tmps.getD 14 undef = u14); (try generalize b.tmps.getD 15 undef = u15))
      go_wp2
      exact ⟨_, rfl, rfl, Below.refl _ _⟩
    · (have hzn : b.tmps.size = 16 := h.size; have hd0 : b.defers = [] := h.defers; rw [act_lit hzn hd0]; have hrr : List.range 16 = [0, 1, 2, 3, 4, 5, 6, 7, 8, 9, 10, 11, 12, 13, 14, 15] := rfl; simp only [hrr, List.map_cons, List.map_nil, e5]; clear hzn hd0 hrr; (try generalize b.tmps.getD 0 undef = u0); (try generalize b.tmps.getD 1 undef = u1); (try generalize b.tmps.getD 2 undef = u2); (try generalize b.tmps.getD 3 undef = u3); (try generalize b.tmps.getD 4 undef = u4); (try generalize b.tmps.getD 5 undef = u5); (try generalize b.tmps.getD 6 undef = u6); (try generalize b.tmps.getD 7 undef = u7); (try generalize b.tmps.getD 8 undef = u8); (try generalize b.tmps.getD 9 undef = u9); (try generalize b.tmps.getD 10 undef = u10); (try generalize b.tmps.getD 11 undef = u11); (try generalize b.tmps.getD 12 undef = u12); (try generalize b.tmps.getD 13 undef = u13); (try generalize b.tmps.getD 14 undef = u14); (try generalize b.tmps.getD 15 undef = u15))
      go_wp2
      exact ⟨_, rfl, rfl, Below.refl _ _⟩
    · (have hzn : b.tmps.size = 16 := h.size; have hd0 : b.defers = [] := h.defers; rw [act_lit hzn hd0]; have hrr : List.range 16 = [0, 1, 2, 3, 4, 5, 6, 7, 8, 9, 10, 11, 12, 13, 14, 15] := rfl; simp only [hrr, List.map_cons, List.map_nil, e1]; clear hzn hd0 hrr; (try generalize b.tmps.getD 0 undef = u0); (try generalize b.tmps.getD 1 undef = u1); (try generalize b.tmps.getD 2 undef = u2); (try generalize b.tmps.getD 3 undef = u3); (try generalize b.tmps.getD 4 undef = u4); (try generalize b.tmps.getD 5 undef = u5); (try generalize b.tmps.getD 6 undef = u6); (try generalize b.tmps.getD 7 undef = u7); (try generalize b.tmps.getD 8 undef = u8); (try generalize b.tmps.getD 9 undef = u9); (try generalize b.tmps.getD 10 undef = u10); (try generalize b.tmps.getD 11 undef = u11); (try generalize b.tmps.getD 12 undef = u12); (try generalize b.tmps.getD 13 undef = u13); (try generalize b.tmps.getD 14 undef = u14); (try generalize b.tmps.getD 15 undef = u15))
      go_wp2
      exact ⟨_, rfl, rfl, Below.refl _ _⟩
    · obtain ⟨_, g13, rfl⟩ := h.got 5 rfl rfl
      (have hzn : b.tmps.size = 16 := h.size; have hd0 : b.defers = [] := h.defers; rw [act_lit hzn hd0]; have hrr : List.range 16 = [0, 1, 2, 3, 4, 5, 6, 7, 8, 9, 10, 11, 12, 13, 14, 15] := rfl; simp only [hrr, List.map_cons, List.map_nil, g13]; clear hzn hd0 hrr; (try generalize b.tmps.getD 0 undef = u0); (try generalize b.tmps.getD 1 undef = u1); (try generalize b.tmps.getD 2 undef = u2); (try generalize b.tmps.getD 3 undef = u3); (try generalize b.tmps.getD 4 undef = u4); (try generalize b.tmps.getD 5 undef = u5); (try generalize b.tmps.getD 6 undef = u6); (try generalize b.tmps.getD 7 undef = u7); (try generalize b.tmps.getD 8 undef = u8); (try generalize b.tmps.getD 9 undef = u9); (try generalize b.tmps.getD 10 undef = u10); (try generalize b.tmps.getD 11 undef = u11); (try generalize b.tmps.getD 12 undef = u12); (try generalize b.tmps.getD 13 undef = u13); (try generalize b.tmps.getD 14 undef = u14); (try generalize b.tmps.getD 15 undef = u15))
      go_wp2
      all_goals exact ⟨_, rfl, congrArg (Value.int .i64) (by have := HM.out; omega), Below.refl _ _⟩
    · obtain ⟨_, g11, rfl⟩ := h.got 3 rfl rfl
      obtain ⟨_, g12, rfl⟩ := h.got 4 rfl rfl
      obtain ⟨_, g14, rfl⟩ := h.got 6 rfl rfl
      (have hzn : b.tmps.size = 16 := h.size; have hd0 : b.defers = [] := h.defers; rw [act_lit hzn hd0]; have hrr : List.range 16 = [0, 1, 2, 3, 4, 5, 6, 7, 8, 9, 10, 11, 12, 13, 14, 15] := rfl; simp only [hrr, List.map_cons, List.map_nil, g11, g12, g14]; clear hzn hd0 hrr; (try generalize b.tmps.getD 0 undef = u0); (try generalize b.tmps.getD 1 undef = u1); (try generalize b.tmps.getD 2 undef = u2); (try generalize b.tmps.getD 3 undef = u3); (try generalize b.tmps.getD 4 undef = u4); (try generalize b.tmps.getD 5 undef = u5); (try generalize b.tmps.getD 6 undef = u6); (try generalize b.tmps.getD 7 undef = u7); (try generalize b.tmps.getD 8 undef = u8); (try generalize b.tmps.getD 9 undef = u9); (try generalize b.tmps.getD 10 undef = u10); (try generalize b.tmps.getD 11 undef = u11); (try generalize b.tmps.getD 12 undef = u12); (try generalize b.tmps.getD 13 undef = u13); (try generalize b.tmps.getD 14 undef = u14); (try generalize b.tmps.getD 15 undef = u15))
      rcases ways_fn HK.out with rfl | rfl | rfl | rfl
      · go_wp2_with (go_at_call 246; refine (HF.out _).mono ?_; rintro e wy ⟨rfl, hgy⟩)
        exact ⟨_, rfl, rfl, hgy⟩
      · go_wp2_with (go_at_call 247; refine (HF.out _).mono ?_; rintro e wy ⟨rfl, hgy⟩)
        exact ⟨_, rfl, rfl, hgy⟩
      · go_wp2_with (go_at_call 248; refine (HF.out _).mono ?_; rintro e wy ⟨rfl, hgy⟩)
        exact ⟨_, rfl, rfl, hgy⟩
      · go_wp2_with (go_at_call 249; refine (HF.out _).mono ?_; rintro e wy ⟨rfl, hgy⟩)
        exact ⟨_, rfl, rfl, hgy⟩
    · obtain ⟨_, g15, rfl⟩ := h.got 7 rfl rfl
      (have hzn : b.tmps.size = 16 := h.size; have hd0 : b.defers = [] := h.defers; rw [act_lit hzn hd0]; have hrr : List.range 16 = [0, 1, 2, 3, 4, 5, 6, 7, 8, 9, 10, 11, 12, 13, 14, 15] := rfl; simp only [hrr, List.map_cons, List.map_nil, g15]; clear hzn hd0 hrr; (try generalize b.tmps.getD 0 undef = u0); (try generalize b.tmps.getD 1 undef = u1); (try generalize b.tmps.getD 2 undef = u2); (try generalize b.tmps.getD 3 undef = u3); (try generalize b.tmps.getD 4 undef = u4); (try generalize b.tmps.getD 5 undef = u5); (try generalize b.tmps.getD 6 undef = u6); (try generalize b.tmps.getD 7 undef = u7); (try generalize b.tmps.getD 8 undef = u8); (try generalize b.tmps.getD 9 undef = u9); (try generalize b.tmps.getD 10 undef = u10); (try generalize b.tmps.getD 11 undef = u11); (try generalize b.tmps.getD 12 undef = u12); (try generalize b.tmps.getD 13 undef = u13); (try generalize b.tmps.getD 14 undef = u14); (try generalize b.tmps.getD 15 undef = u15))
      go_wp2
      exact ⟨_, rfl, rfl, Below.refl _ _⟩
  case fin =>
    intro b W h
    obtain ⟨_, g4, rfl⟩ := h.got 8 rfl rfl
    have hBW := HB.out.trans (h.kept.mono HB.out.size)
    rename_i K hK
    refine hK _ _ ?_
    (have hzn : b.tmps.size = 16 := h.size; have hd0 : b.defers = [] := h.defers; rw [act_lit hzn hd0]; have hrr : List.range 16 = [0, 1, 2, 3, 4, 5, 6, 7, 8, 9, 10, 11, 12, 13, 14, 15] := rfl; simp only [hrr, List.map_cons, List.map_nil, g4]; clear hzn hd0 hrr; (try generalize b.tmps.getD 0 undef = u0); (try generalize b.tmps.getD 1 undef = u1); (try generalize b.tmps.getD 2 undef = u2); (try generalize b.tmps.getD 3 undef = u3); (try generalize b.tmps.getD 4 undef = u4); (try generalize b.tmps.getD 5 undef = u5); (try generalize b.tmps.getD 6 undef = u6); (try generalize b.tmps.getD 7 undef = u7); (try generalize b.tmps.getD 8 undef = u8); (try generalize b.tmps.getD 9 undef = u9); (try generalize b.tmps.getD 10 undef = u10); (try generalize b.tmps.getD 11 undef = u11); (try generalize b.tmps.getD 12 undef = u12); (try generalize b.tmps.getD 13 undef = u13); (try generalize b.tmps.getD 14 undef = u14); (try generalize b.tmps.getD 15 undef = u15))
    go_wp2
    go_ret
    exact ⟨rfl, hBW⟩

theorem way_cell {wt : Int} (h1 : 0 ≤ wt) (h2 : wt ≤ 3) : wt = 0 ∨ wt = 1 ∨ wt = 2 ∨ wt = 3 := by omega
theorem wnext_any (lg th po wt sp yi : Int) (si : Bool) (n : Int) (w : World) : Calls Tryz.prog 203 #[.agg #[.int .i64 lg, .int .i64 th, .int .i64 po, .int .i64 wt, .int .i64 sp, .int .i64 yi, .bool si], .int .i64 n] w fun e w' => e = .returned (.int .i64 (wtnI lg th po wt sp yi (max n 0))) ∧ Kept w w' := by
  cases hm : mayB lg th po wt sp yi
  · rw [wn_no hm]
    exact next_core lg th po wt sp yi si 0 0 0 0 0 0 false n (max n 0) 0 246 w rfl (fun W => wayof_no lg th po wt sp yi si W hm) (by simp [waysL, wfn]) (fun W => wbusy_any 0 0 0 0 0 0 _ false W)
  · rw [wn_yes hm]
    have hp := may_iff.1 hm
    obtain rfl | rfl | rfl | rfl := way_cell hp.2.2.2.2.2.2.1 hp.2.2.2.2.2.2.2.1
    · exact next_core lg th po 0 sp yi si lg th po 0 sp yi si n (max n 0) 0 246 w rfl (fun W => wayof_yes lg th po 0 sp yi si W hm) (by simp [waysL, wfn]) (fun W => wbusy_any lg th po 0 sp yi _ si W)
    · exact next_core lg th po 1 sp yi si lg th po 1 sp yi si n (max n 0) 1 247 w rfl (fun W => wayof_yes lg th po 1 sp yi si W hm) (by simp [waysL, wfn]) (fun W => wyielding_any lg th po 1 sp yi _ si W)
    · exact next_core lg th po 2 sp yi si lg th po 2 sp yi si n (max n 0) (phI sp yi (max n 0)) 248 w rfl (fun W => wayof_yes lg th po 2 sp yi si W hm) (by simp [waysL, wfn]) (fun W => wphased_any lg th po 2 sp yi _ si W (by omega) (by omega))
    · exact next_core lg th po 3 sp yi si lg th po 3 sp yi si n (max n 0) 2 249 w rfl (fun W => wayof_yes lg th po 3 sp yi si W hm) (by simp [waysL, wfn]) (fun W => wparking_any lg th po 3 sp yi _ si W)
end Go.Proofs.YtjbcfjfnobklkaaGreat

/- Contracts told by abstract values: what a step of the program calls, of lines, events, slots, words, threads. -/
namespace Go.Proofs.YtjbcfjfnobklkaaGreat
set_option linter.unusedVariables false
set_option linter.unusedSimpArgs false
open Go.RowKit
section
variable {O : Nat → Prop} {W W' : World}
theorem own_low (hl : Low O W) : ∀ g, W.heap.size ≤ g → ¬ O g := fun g hg hO => by have := hl g hO; omega
theorem rowI_own (hl : Low O W) {r : List Int} {p : Option Addr} {k : Nat} (h : Ow W' W.heap.size 3 1 intC r (.slice p r.length k)) : Rp nowhere O W' (rowI r) (.slice p r.length k) := rp_rowI.2 ⟨p, k, rfl, (Ow.loc intEnc h).mono (own_low hl)⟩
theorem evT_own (hl : Low O W) {n : Int} {r : List Int} {p : Option Addr} {k : Nat} (h : Ow W' W.heap.size 3 1 intC r (.slice p r.length k)) : Rp nowhere O W' (evT n r) (.agg #[.int .i64 n, .slice p r.length k]) := rp_evT.2 ⟨p, k, rfl, (Ow.loc intEnc h).mono (own_low hl)⟩
theorem rowS_own (hl : Low O W) {r : List Slo} {p : Option Addr} {k : Nat} (h : Ow W' W.heap.size 64 2 Slo.cells r (.slice p r.length k)) : Rp nowhere O W' (rowS r) (.slice p r.length k) := rp_rowS.2 ⟨p, k, rfl, (Ow.loc Slo.enc h).mono (own_low hl)⟩
theorem tup2 {ρ : PMap} {a b x y : Value} (h : Rp ρ O W a x) (k : Rp ρ O W b y) : Rp ρ O W (.tuple #[a, b]) (.tuple #[x, y]) := rp_tupL.2 ⟨_, rfl, _, _, rfl, h, _, _, rfl, k, rfl⟩
theorem tup3 {ρ : PMap} {a b c x y z : Value} (h : Rp ρ O W a x) (k : Rp ρ O W b y) (l : Rp ρ O W c z) : Rp ρ O W (.tuple #[a, b, c]) (.tuple #[x, y, z]) := rp_tupL.2 ⟨_, rfl, _, _, rfl, h, _, _, rfl, k, _, _, rfl, l, rfl⟩
end
theorem ac_penter (l : List Int) (i : Int) (hm : l.length ≤ 999999) : AC Tryz.prog 148 [rowI l, .int .i64 i] (.tuple #[rowI (entL l i), .int .i64 (entE l i)]) := by
  intro O W vs hl hat ; obtain ⟨ys, rfl, _, _, rfl, h0, _, _, rfl, h1, rfl⟩ := args_of hat
  obtain ⟨p, k, rfl, hs⟩ := rp_rowI.1 h0
  rw [rp_int] at h1
  subst h1
  refine (lenter_own l i p k W hs.s hm).mono ?_
  rintro e W' ⟨p', k', rfl, ho, hk⟩
  exact ⟨_, rfl, tup2 (rowI_own hl ho) (rp_int.2 rfl), hk⟩
theorem ac_pleave (l : List Int) (i : Int) (hm : l.length ≤ 999999) : AC Tryz.prog 162 [rowI l, .int .i64 i] (.tuple #[rowI (lvL l i), .int .i64 (lvE l i)]) := by
  intro O W vs hl hat ; obtain ⟨ys, rfl, _, _, rfl, h0, _, _, rfl, h1, rfl⟩ := args_of hat
  obtain ⟨p, k, rfl, hs⟩ := rp_rowI.1 h0
  rw [rp_int] at h1
  subst h1
  refine (lleave_own l i p k W hs.s hm).mono ?_
  rintro e W' ⟨p', k', rfl, ho, hk⟩
  exact ⟨_, rfl, tup2 (rowI_own hl ho) (rp_int.2 rfl), hk⟩
theorem ac_pfirst {l : List Int} {i : Int} {b : Bool} (hb : (plI l i == 0) = b) : AC Tryz.prog 149 [rowI l, .int .i64 i] (.bool b) := by
  intro O W vs hl hat ; obtain ⟨ys, rfl, _, _, rfl, h0, _, _, rfl, h1, rfl⟩ := args_of hat
  obtain ⟨p, k, rfl, hs⟩ := rp_rowI.1 h0
  rw [rp_int] at h1
  subst h1
  refine (lfirst_any l i p k W hs.s).mono ?_
  rintro e W' ⟨rfl, hk⟩
  exact ⟨_, rfl, rp_bool.2 (by rw [hb]), hk⟩
theorem ac_pprep (ep : Int) (l : List Int) : AC Tryz.prog 158 [evT ep l] (.int .i64 (prE ep l)) := by
  intro O W vs hl hat ; obtain ⟨ys, rfl, _, _, rfl, h0, rfl⟩ := args_of hat
  obtain ⟨p, k, rfl, hs⟩ := rp_evT.1 h0
  refine (eprep_any ep l p k W hs.s).mono ?_
  rintro e W' ⟨rfl, hk⟩
  exact ⟨_, rfl, rp_int.2 rfl, hk⟩
theorem ac_pnotify {ep : Int} {l : List Int} {b : Bool} (hb : hdB (ntT 1 ep l) = b) (hm : l.length ≤ 999999) : AC Tryz.prog 159 [evT ep l] (.tuple #[evT (ntE ep l) (ntL 1 ep l), .int .i64 (hdI (ntT 1 ep l)), .bool b]) := by
  intro O W vs hl hat ; obtain ⟨ys, rfl, _, _, rfl, h0, rfl⟩ := args_of hat
  obtain ⟨p, k, rfl, hs⟩ := rp_evT.1 h0
  refine (enotify_any ep l p k W hs.s hm).mono ?_
  rintro e W' ⟨p', k', rfl, ho, hk⟩
  exact ⟨_, rfl, tup3 (evT_own hl ho) (rp_int.2 rfl) (rp_bool.2 (by rw [hb])), hk⟩
theorem ac_pcommit {ep : Int} {l : List Int} {s i : Int} {b : Bool} (hb : cmB ep l s i = b) (hm : l.length ≤ 999999) : AC Tryz.prog 160 [evT ep l, .int .i64 s, .int .i64 i] (.tuple #[evT ep (cmL ep l s i), .bool b, .int .i64 (cmC ep l i)]) := by
  intro O W vs hl hat ; obtain ⟨ys, rfl, _, _, rfl, h0, _, _, rfl, h1, _, _, rfl, h2, rfl⟩ := args_of hat
  obtain ⟨p, k, rfl, hs⟩ := rp_evT.1 h0
  rw [rp_int] at h1 h2
  subst h1 h2
  refine (ecommit_any ep l s i p k W hs.s hm).mono ?_
  rintro e W' ⟨p', k', rfl, ho, hk⟩
  exact ⟨_, rfl, tup3 (evT_own hl ho) (rp_bool.2 (by rw [hb])) (rp_int.2 rfl), hk⟩
theorem ac_pwrite (l : List Slo) (q v : Int) (hm : l.length ≤ 1000) (hq : In64 q) : AC Tryz.prog 230 [rowS l, .int .i64 q, .int .i64 v] (.tuple #[rowS (wrL l q v), .int .i64 (wrE l q)]) := by
  intro O W vs hl hat ; obtain ⟨ys, rfl, _, _, rfl, h0, _, _, rfl, h1, _, _, rfl, h2, rfl⟩ := args_of hat
  obtain ⟨p, k, rfl, hs⟩ := rp_rowS.1 h0
  rw [rp_int] at h1 h2
  subst h1 h2
  refine (swrite_any l q v p k W hs.s hm hq).mono ?_
  rintro e W' ⟨g, rfl, ho, hk⟩
  exact ⟨_, rfl, tup2 (rowS_own hl ho) (rp_int.2 rfl), hk⟩
theorem ac_prelease (l : List Slo) (q : Int) (hm : l.length ≤ 1000) (hq : In64 q) : AC Tryz.prog 157 [rowS l, .int .i64 q] (.tuple #[rowS (rlL l q), .int .i64 (rlE l q)]) := by
  intro O W vs hl hat ; obtain ⟨ys, rfl, _, _, rfl, h0, _, _, rfl, h1, rfl⟩ := args_of hat
  obtain ⟨p, k, rfl, hs⟩ := rp_rowS.1 h0
  rw [rp_int] at h1
  subst h1
  refine (srelease_any l q p k W hs.s hm hq).mono ?_
  rintro e W' ⟨g, rfl, ho, hk⟩
  exact ⟨_, rfl, tup2 (rowS_own hl ho) (rp_int.2 rfl), hk⟩
theorem ac_paccept (h t m r : Int) (hh : In64 h) (ht : In64 t) (hm : In64 m) (hr : In64 r) : AC Tryz.prog 231 [wdT h t m, .int .i64 r] (.tuple #[wdT h (acT h t m r) m, .int .i64 (acP h t m r), .int .i64 (acR h t m r)]) := ew_accept hh ht hm hr
theorem ac_psees (h t m r : Int) (hh : In64 h) (ht : In64 t) (hm : In64 m) (hr : In64 r) : AC Tryz.prog 201 [wdT h t m, .int .i64 r] (.tuple #[.int .i64 (acR h t m r), .int .i64 (tkR h t m r)]) := ew_sees hh ht hm hr
theorem ac_pevict {h t m r x : Int} {b : Bool} (hb : evwB h t m r x = b) (hh : In64 h) (ht : In64 t) (hm : In64 m) (hr : In64 r) (hx : In64 x) : AC Tryz.prog 232 [wdT h t m, .int .i64 r, .int .i64 x] (.tuple #[wdT (evH h t m r x) t m, .bool b]) := hb ▸ ew_evict hh ht hm hr
theorem ac_pnext (c : Cf) (n : Int) : AC Tryz.prog 203 [cfT c, .int .i64 n] (.int .i64 (wtnI c.lg c.th c.po c.wt c.sp c.yi (max n 0))) := by
  intro O W vs hl hat ; obtain ⟨ys, rfl, _, _, rfl, h0, _, _, rfl, h1, rfl⟩ := args_of hat
  rw [rp_cfT] at h0
  rw [rp_int] at h1
  subst h0 h1
  refine (wnext_any c.lg c.th c.po c.wt c.sp c.yi c.si n W).mono ?_
  rintro e W' ⟨rfl, hk⟩
  exact ⟨_, rfl, rp_int.2 rfl, hk⟩
theorem ac_pside (k : Int) : AC Tryz.prog 85 [.int .i64 k] (.int .i64 (opSide k)) := by
  intro O W vs hl hat ; obtain ⟨ys, rfl, _, _, rfl, h0, rfl⟩ := args_of hat
  rw [rp_int] at h0
  subst h0
  refine (oside_any k W).mono ?_
  rintro e W' ⟨rfl, hk⟩
  exact ⟨_, rfl, rp_int.2 rfl, hk⟩
theorem ac_ponce {k : Int} {b : Bool} (hb : opOnce k = b) : AC Tryz.prog 202 [.int .i64 k] (.bool b) := by
  intro O W vs hl hat ; obtain ⟨ys, rfl, _, _, rfl, h0, rfl⟩ := args_of hat
  rw [rp_int] at h0
  subst h0
  refine (oonce_any k W).mono ?_
  rintro e W' ⟨rfl, hk⟩
  exact ⟨_, rfl, rp_bool.2 (by rw [hb]), hk⟩
theorem ac_pruns {t : Th} {e : Int} (he : thRuns t.st = e) : AC Tryz.prog 84 [thT t] (.int .i64 e) := by
  intro O W vs hl hat ; obtain ⟨ys, rfl, _, _, rfl, h0, rfl⟩ := args_of hat
  rw [rp_thT] at h0
  subst h0
  refine (truns_x he W).mono ?_
  rintro e W' ⟨rfl, rfl⟩
  exact ⟨_, rfl, rp_int.2 rfl, by repeat' (first | (with_reducible exact Below.refl _ _) | (with_reducible assumption) | (with_reducible refine kept_alloc ?_ _) | (with_reducible refine kept_drewN ?_ _) | (with_reducible refine Below.drew ?_) | (with_reducible refine Below.setCell ?_ (by first | omega | (simp; omega) | (simp; done)) _) | (refine kept_trans ?_ (by with_reducible assumption)))⟩
theorem ac_ppark {t : Th} {p e : Int} {r : Th} (h : thPark t p e r) : AC Tryz.prog 161 [thT t, .int .i64 p] (.tuple #[thT r, .int .i64 e]) := by
  intro O W vs hl hat ; obtain ⟨ys, rfl, _, _, rfl, h0, _, _, rfl, h1, rfl⟩ := args_of hat
  rw [rp_thT] at h0
  rw [rp_int] at h1
  subst h0 h1
  refine (tpark_val h W).mono ?_
  rintro e W' ⟨rfl, hk⟩
  exact ⟨_, rfl, tup2 (rp_thT.2 rfl) (rp_int.2 rfl), hk⟩
theorem ac_pdone {t : Th} {e : Int} {r : Th} (h : thDone t e r) : AC Tryz.prog 163 [thT t] (.tuple #[thT r, .int .i64 e]) := by
  intro O W vs hl hat ; obtain ⟨ys, rfl, _, _, rfl, h0, rfl⟩ := args_of hat
  rw [rp_thT] at h0
  subst h0
  refine (tdone_val h W).mono ?_
  rintro e W' ⟨rfl, hk⟩
  exact ⟨_, rfl, tup2 (rp_thT.2 rfl) (rp_int.2 rfl), hk⟩
theorem ac_pvalue (s : St) (p : Int) (ho : s.ok) (hp : In64 p) : AC Tryz.prog 155 [stT s, .int .i64 p] (.int .i64 (valV s p)) := by
  intro O W vs hl hat ; obtain ⟨ys, rfl, _, _, rfl, h0, _, _, rfl, h1, rfl⟩ := args_of hat
  obtain ⟨z, rfl, hs⟩ := rp_stT.1 h0
  rw [rp_int] at h1
  subst h1
  refine (fvalue_any s z p W hs.at ho hp).mono ?_
  rintro e W' ⟨rfl, hk⟩
  exact ⟨_, rfl, rp_int.2 rfl, hk⟩
end Go.Proofs.YtjbcfjfnobklkaaGreat
