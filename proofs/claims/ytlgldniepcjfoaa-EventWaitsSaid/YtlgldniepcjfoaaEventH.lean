/- Layer 6: who is first is taken out of a block that holds a line; and so on, as long as a closure says. -/
import Derived.Test.YtlgldniepcjfoaaEventG
namespace Go.Proofs.Ytlgldniepcjfoaa
set_option linter.unusedVariables false
set_option linter.unusedSimpArgs false
open Go.ChangeShapes Go.WideShapes Go.ChangeAt Go.RowKit

theorem lnext_oval {l r : List Int} {x : Int} {b : Bool} (hx : nxI l = x) (hr : nxL l = r) (hb : nxB l = b) (p : Option Addr) (k : Nat) (w : World) (hl : Sl w 1 intC l (.slice p l.length k)) (hm : l.length ≤ 999999) :
    Calls Try.prog 35 #[.slice p l.length k] w (RetNO w x r b) := hx ▸ hr ▸ hb ▸ lnext_own l p k w hl hm
/-- A store of something into a cell that holds no integer leaves lists of integers as they were. -/
theorem Sl.setCell {W : World} {l : List Int} {v u : Value} {a : Addr} (h : Sl W 1 intC l v) (ha : ∀ x, W.cell? a ≠ some (.int .i64 x)) : Sl (W.setCell a u) 1 intC l v := by
  obtain ⟨p, cap, hv, h1, h2, h3, h4⟩ := h.is
  refine ⟨p, cap, hv, h1, h2, h3, fun hne => ?_⟩
  obtain ⟨b, o, hp, hb, hc⟩ := h4 hne
  refine ⟨b, o, hp, by simpa using hb, fun i x hx j hj => ?_⟩
  have hcx := hc i x hx j hj
  have hj0 : j = 0 := by omega
  subst hj0
  rw [World.cell?_setCell_other]
  · exact hcx
  · intro e
    subst e
    exact ha x (by simpa [intC] using hcx)

/-- What the method that takes the first one out leaves. -/
def RetNx (w : World) (wb : Nat) (x : Int) (r : List Int) (b : Bool) (e : Ending) (w' : World) : Prop :=
  ∃ (p : Option Addr) (k : Nat) (w1 : World), e = .returned (.tuple #[.int .i64 x, .bool b]) ∧ Ow w1 w.heap.size 3 1 intC r (.slice p r.length k) ∧ Kept w w1 ∧ w' = w1.setCell ⟨wb, 0, none⟩ (.slice p r.length k)
set_option maxHeartbeats 1000000 in
theorem enext_any {l r : List Int} {x : Int} {b : Bool} (hx : nxI l = x) (hr : nxL l = r) (hb : nxB l = b) (wb : Nat) (p : Option Addr) (k : Nat) (w : World) (hz : wb < w.heap.size) (hc : w.cell? ⟨wb, 0, none⟩ = some (.slice p l.length k)) (hf : w.frozen? ⟨wb, 0, none⟩ = false)
    (hl : Sl w 1 intC l (.slice p l.length k)) (hm : l.length ≤ 999999) :
    Calls Try.prog 30 #[.pointer (some ⟨wb, 0, none⟩)] w (RetNx w wb x r b) := by
  have H := Lib.hid hl
  have HV := Lib.hid (And.intro hx (And.intro hr hb))
  clear hl hx hr hb
  go_enter Try.func30, Try.ntmps30
  go_wp2_with fail
  refine (lnext_oval HV.out.1 HV.out.2.1 HV.out.2.2 p k _ (H.out.kept (by repeat' (first | (with_reducible exact Below.refl _ _) | (with_reducible assumption) | (with_reducible refine kept_alloc ?_ _) | (with_reducible refine kept_drewN ?_ _) | (with_reducible refine Below.drew ?_) | (with_reducible refine Below.setCell ?_ (by first | omega | (simp; omega) | (simp; done)) _) | (refine kept_trans ?_ (by with_reducible assumption))))) hm).mono ?_
  rintro e w1 ⟨p1, k1, rfl, hS1, hg1⟩
  have c1 := ((bcell hg1).1 wb 0 hz).trans hc
  have f1 := ((bcell hg1).2 wb 0 hz).trans hf
  have hz1 : wb < w1.heap.size := Nat.lt_of_lt_of_le hz hg1.size
  have HS1 := Lib.hid hS1
  clear hS1
  go_wp2
  go_ret2
  exact ⟨p1, k1, w1, rfl, HS1.out, hg1, rfl⟩

/-- Rows of a call's own, one older than the other, lie apart. -/
theorem ow_apart {α β : Type} {W W2 : World} {base k k' : Nat} {e e' : TypeId} {enc : α → List Value} {enc' : β → List Value} {xs : List α} {ys : List β} {u v : Value} (h1 : Ow W base e k enc xs v) (h2 : Ow W2 W.heap.size e' k' enc' ys u) {g : Nat} (hg1 : u.ownBlock = some g) : v.ownBlock ≠ some g := by
  intro hg2
  have := (h1.lt g hg2).2
  have := (h2.lt g hg1).1
  omega
def lenOf : Value → Nat
  | .slice _ n _ => n
  | _ => 0
/-- What stands at the head of a round: who was told, and who still waits. -/
structure Tk (b0 : Nat) (w : World) (wb : Nat) (l : List Int) (j : Nat) (pt p2 : Option Addr) (kt k2 : Nat) (wr : World) : Prop where
  told : Ow wr w.heap.size 3 1 intC (l.take j) (.slice pt j kt)
  rest : Ow wr b0 3 1 intC (l.drop j) (.slice p2 (l.length - j) k2)
  cell : wr.cell? ⟨wb, 0, none⟩ = some (.slice p2 (l.length - j) k2)
  froz : wr.frozen? ⟨wb, 0, none⟩ = false
  below : Below wb w wr
  size : w.heap.size ≤ wr.heap.size
theorem Tk.kept {b0 : Nat} {w : World} {wb : Nat} {l : List Int} {j : Nat} {pt p2 : Option Addr} {kt k2 : Nat} {wr wr' : World} (h : Tk b0 w wb l j pt p2 kt k2 wr) (hz : wb < w.heap.size) (hk : Kept wr wr') : Tk b0 w wb l j pt p2 kt k2 wr' :=
  ⟨h.told.kept hk, h.rest.kept hk, ((bcell hk).1 _ _ (Nat.lt_of_lt_of_le hz h.size)).trans h.cell, ((bcell hk).2 _ _ (Nat.lt_of_lt_of_le hz h.size)).trans h.froz, h.below.trans (hk.mono (Nat.le_trans (Nat.le_of_lt hz) h.size)), Nat.le_trans h.size hk.size⟩
/-- One more was taken out: the world behind the store. -/
theorem Tk.next {b0 : Nat} {w : World} {wb : Nat} {l : List Int} {j : Nat} {pt p2 : Option Addr} {kt k2 : Nat} {w1 : World} (h : Tk b0 w wb l j pt p2 kt k2 w1) (hz : wb < w.heap.size) {w2 : World} (hg : Kept w1 w2) {r : List Int} {p3 : Option Addr} {k3 : Nat} (hO : Ow w2 w1.heap.size 3 1 intC r (.slice p3 r.length k3)) :
    Ow (w2.setCell ⟨wb, 0, none⟩ (.slice p3 r.length k3)) w.heap.size 3 1 intC (l.take j) (.slice pt j kt) ∧ Ow (w2.setCell ⟨wb, 0, none⟩ (.slice p3 r.length k3)) w1.heap.size 3 1 intC r (.slice p3 r.length k3) ∧
    (w2.setCell ⟨wb, 0, none⟩ (.slice p3 r.length k3)).cell? ⟨wb, 0, none⟩ = some (.slice p3 r.length k3) ∧ (w2.setCell ⟨wb, 0, none⟩ (.slice p3 r.length k3)).frozen? ⟨wb, 0, none⟩ = false ∧ Below wb w (w2.setCell ⟨wb, 0, none⟩ (.slice p3 r.length k3)) ∧ w.heap.size ≤ (w2.setCell ⟨wb, 0, none⟩ (.slice p3 r.length k3)).heap.size := by
  have h2 := h.kept hz hg
  have hz1 : wb < w1.heap.size := Nat.lt_of_lt_of_le hz h.size
  refine ⟨h2.told.setCell (p := ⟨wb, 0, none⟩) hz _, hO.setCell (p := ⟨wb, 0, none⟩) hz1 _, World.cell?_setCell_same' _ _ _ (by rw [h2.cell]; rfl), ?_, h2.below.setCell (p := ⟨wb, 0, none⟩) (Nat.le_refl _) _, by simpa using h2.size⟩
  rw [World.frozen?_setCell]; exact h2.froz
/-- .. and told. -/
theorem Tk.app {b0 : Nat} {w : World} {wb : Nat} {l : List Int} {j : Nat} {pt p2 : Option Addr} {kt k2 : Nat} {w1 : World} (h : Tk b0 w wb l j pt p2 kt k2 w1) (hz : wb < w.heap.size) (hb0 : b0 ≤ w.heap.size) (hj : j < l.length) {V w6 : World} {o : Obj} {p3 : Option Addr} {k3 : Nat} {y : Int} (hy : l[j] = y) {v6 : Value}
    (hV : Ow V w1.heap.size 3 1 intC (l.drop (j + 1)) (.slice p3 (l.drop (j + 1)).length k3)) (hc : V.cell? ⟨wb, 0, none⟩ = some (.slice p3 (l.drop (j + 1)).length k3)) (hf : V.frozen? ⟨wb, 0, none⟩ = false) (hB : Below wb w V) (hs : w.heap.size ≤ V.heap.size)
    (h6 : Ow w6 w.heap.size 3 1 intC (l.take j ++ [y]) v6) (hgr : (V.alloc o).grownBy w6 (Value.slice pt j kt).ownBlock) : ∃ p6 k6, v6 = .slice p6 (j + 1) k6 ∧ Tk b0 w wb l (j + 1) p6 p3 k6 k3 w6 := by
  subst hy
  rw [← List.take_succ_eq_append_getElem hj] at h6
  obtain ⟨p6, k6, rfl, -⟩ := (Ow.sl intEnc h6).is
  have hlen : (l.take (j + 1)).length = j + 1 := by simp; omega
  have hdr : (l.drop (j + 1)).length = l.length - (j + 1) := by simp
  have hA : Below (wb + 1) V (V.alloc o) := (Below.refl _ _).alloc (by omega) o
  have hsa : V.heap.size ≤ (V.alloc o).heap.size := by simp
  have hAg : Below (wb + 1) V w6 := hA.grown hgr (by omega) (fun i e => by have := (h.told.lt i e).1; omega)
  have hr : Ow w6 w1.heap.size 3 1 intC (l.drop (j + 1)) (.slice p3 (l.drop (j + 1)).length k3) := Ow.grown (hV.kept ((Below.refl _ _).alloc (Nat.le_refl _) o)) hgr (fun g hg => ow_apart h.told hV hg)
  rw [hlen] at h6
  refine ⟨p6, k6, by rw [hlen], h6, ?_, ?_, ?_, ?_, Nat.le_trans hs hAg.size⟩
  · rw [← hdr]; exact Ow.mono hr (Nat.le_trans hb0 h.size)
  · rw [← hdr]; exact (hAg.cell (p := ⟨wb, 0, none⟩) (Nat.lt_succ_self _)).trans hc
  · exact (hAg.frozen (p := ⟨wb, 0, none⟩) (Nat.lt_succ_self _)).trans hf
  · exact hB.trans (hAg.mono (Nat.le_succ _))
/-- What the loop leaves. -/
def RetTk (b0 : Nat) (w : World) (wb m : Nat) (l : List Int) (e : Ending) (w' : World) : Prop :=
  ∃ (pt p2 : Option Addr) (kt k2 : Nat), e = .returned (.slice pt (l.take m).length kt) ∧ Ow w' w.heap.size 3 1 intC (l.take m) (.slice pt (l.take m).length kt) ∧ Ow w' b0 3 1 intC (l.drop m) (.slice p2 (l.drop m).length k2) ∧ w'.cell? ⟨wb, 0, none⟩ = some (.slice p2 (l.drop m).length k2) ∧ Below wb w w'
set_option maxHeartbeats 4000000 in
theorem etaken_any (b0 : Nat) (l : List Int) (m wb : Nat) (p : Option Addr) (k : Nat) (w w0 : World) (lb : Array Value) (hz : wb < w.heap.size) (hc : w.cell? ⟨wb, 0, none⟩ = some (.slice p l.length k)) (hf : w.frozen? ⟨wb, 0, none⟩ = false)
    (hl : Ow w b0 3 1 intC l (.slice p l.length k)) (hb0 : b0 ≤ w.heap.size) (hok : okLn l = true) (hm : l.length ≤ 999999) (hmm : m ≤ 999999) (hT : Tells 31 lb (fun x => decide (x < (m : Int))) w0) (h0 : Below w0.heap.size w0 w) (h0z : w0.heap.size ≤ wb) :
    Calls Try.prog 29 #[.func (.func 30) #[.pointer (some ⟨wb, 0, none⟩)] #[], .func (.func 31) #[] lb] w (RetTk b0 w wb m l) := by
  have HT := Lib.hid hT
  have HO := Lib.hid hok
  have HK : Hid (Tk b0 w wb l 0 none p 0 k w) := Lib.hid ⟨owi_nil, hl, hc, hf, Below.refl _ _, Nat.le_refl _⟩
  clear hT hok hl hc hf
  obtain ⟨N, hN⟩ : ∃ N, l.length = N := ⟨_, rfl⟩
  have HN := Lib.hid hN
  rw [hN] at hm
  clear hN
  go_enter Try.func29, Try.ntmps29
  go_wp2
  go_loopw [5, 6, 7] (fun s5 _ _ wr => ∃ (j : Nat) (pt p2 : Option Addr) (kt k2 : Nat), s5 = .slice pt j kt ∧ j ≤ N ∧ j ≤ m ∧ Hid (Tk b0 w wb l j pt p2 kt k2 wr)) (fun s5 _ _ _ => N - lenOf s5)
  case atStart => exact ⟨0, none, p, 0, k, rfl, by omega, by omega, HK⟩
  case round =>
    obtain ⟨j, pt, p2, kt, k2, rfl, hj, hjm, HR⟩ := hrel
    have hBm : Below w0.heap.size w0 wr := h0.trans (HR.out.below.mono h0z)
    by_cases hjm' : j < m
    · have hT1 : Calls Try.prog 31 (#[.int .i64 j] ++ lb) wr fun e w' => e = .returned (.bool true) ∧ Kept wr w' := (HT.out wr j hBm).mono fun e w' h => ⟨h.1.trans (ret_bool (by simp; omega)), h.2⟩
      have HT1 := Lib.hid hT1
      clear hT1
      go_wp2_with fail
      refine HT1.out.mono ?_
      rintro e w1 ⟨rfl, hg1⟩
      have HK1 := Lib.hid (HR.out.kept hz hg1)
      have hz1 : wb < w1.heap.size := Nat.lt_of_lt_of_le hz HK1.out.size
      by_cases hlt : j < N
      · have hlt' : j < l.length := by rw [HN.out]; exact hlt
        obtain ⟨-, s2, s3, s4⟩ := serve HO.out hlt'
        obtain ⟨y, hy⟩ : ∃ y, l[j] = y := ⟨_, rfl⟩
        rw [hy] at s3
        have HY := Lib.hid hy
        have HV := Lib.hid (And.intro s2 (And.intro s3 s4))
        clear hy s2 s3 s4 hg1 hBm
        go_wp2_with fail
        refine (enext_any HV.out.2.1 HV.out.2.2 HV.out.1 wb p2 k2 w1 hz1 (by rw [List.length_drop]; exact HK1.out.cell) HK1.out.froz (by rw [List.length_drop]; exact Ow.sl intEnc HK1.out.rest) (by have := HN.out; simp; omega)).mono ?_
        rintro e w3 ⟨p3, k3, w2, rfl, hO2, hg2, hV3⟩
        obtain ⟨n1, n2, n3, n4, n5, n6⟩ := HK1.out.next hz hg2 hO2
        rw [← hV3] at n1 n2 n3 n4 n5 n6
        have HX := Lib.hid (And.intro n1 (And.intro n2 (And.intro n3 (And.intro n4 (And.intro n5 n6)))))
        clear hO2 hg2 hV3 n1 n2 n3 n4 n5 n6
        have hw3 : w.heap.size ≤ (w3.alloc (.cells #[.int .i64 y] 3)).heap.size := by have := HX.out.2.2.2.2.2; simp; omega
        have HW3 := Lib.hid hw3
        clear hw3
        go_wp2_with (at_builtin; refine wpList_app (base := w.heap.size) rfl _ _ 22 rfl (.int .i64 0) 8 Try.underlying22 int_info rfl (by decide) intEnc rfl rfl (xs := l.take j) (ys := [y]) (HX.out.1.kept ((Below.refl _ _).alloc (Nat.le_refl _) _)) (sli_one w3 y rfl) (by simp only [List.length_take, List.length_cons, List.length_nil]; unfold maxLen; omega) (by simp only [List.length_take, List.length_cons, List.length_nil]; omega) HW3.out ?_; intro v6 w6 h6 hgr6)
        obtain ⟨p6, k6, rfl, hK6⟩ := HK1.out.app hz hb0 hlt' HY.out HX.out.2.1 HX.out.2.2.1 HX.out.2.2.2.1 HX.out.2.2.2.2.1 HX.out.2.2.2.2.2 h6 hgr6
        exact ⟨⟨j + 1, p6, p3, k6, k3, rfl, by omega, by omega, Lib.hid hK6⟩, by simp [lenOf]; omega⟩
      · have : j = N := by omega
        subst this
        have hd : l.drop j = [] := by rw [← HN.out]; simp
        have HE : Hid (nxB (l.drop j) = false ∧ nxI (l.drop j) = 0 ∧ nxL (l.drop j) = []) := Lib.hid (by rw [hd]; decide)
        go_wp2_with fail
        refine (enext_any HE.out.2.1 HE.out.2.2 HE.out.1 wb p2 k2 w1 hz1 (by rw [List.length_drop]; exact HK1.out.cell) HK1.out.froz (by rw [List.length_drop]; exact Ow.sl intEnc HK1.out.rest) (by have := HN.out; simp; omega)).mono ?_
        rintro e w3 ⟨p3, k3, w2, rfl, hO2, hg2, hV3⟩
        obtain ⟨n1, n2, n3, n4, n5, n6⟩ := HK1.out.next hz hg2 hO2
        rw [← hV3] at n1 n2 n3 n4 n5 n6
        have hdm : l.drop m = [] := List.drop_eq_nil_of_le (by rw [HN.out]; omega)
        have htm : l.take m = l.take j := by rw [List.take_of_length_le (by rw [HN.out]; omega), List.take_of_length_le (by rw [HN.out]; omega)]
        have htl : (l.take j).length = j := by rw [List.length_take, HN.out]; omega
        have hres : RetTk b0 w wb m l (.returned (.slice pt j kt)) w3 := ⟨pt, p3, kt, k3, by rw [htm, htl], by rw [htm, htl]; exact n1, by rw [hdm]; exact Ow.mono n2 (Nat.le_trans hb0 HK1.out.size), by rw [hdm]; exact n3, n5⟩
        have HRS := Lib.hid hres
        clear hO2 hg2 hV3 n1 n2 n3 n4 n5 n6 hd hdm htm htl hres
        go_wp2
        go_ret
        exact HRS.out
    · have : j = m := by omega
      subst this
      have hT1 : Calls Try.prog 31 (#[.int .i64 j] ++ lb) wr fun e w' => e = .returned (.bool false) ∧ Kept wr w' := (HT.out wr j hBm).mono fun e w' h => ⟨h.1.trans (ret_bool (by simp)), h.2⟩
      have HT1 := Lib.hid hT1
      clear hT1
      go_wp2_with fail
      refine HT1.out.mono ?_
      rintro e w1 ⟨rfl, hg1⟩
      have hK1 := HR.out.kept hz hg1
      have htl : (l.take j).length = j := by rw [List.length_take, HN.out]; omega
      have hres : RetTk b0 w wb j l (.returned (.slice pt j kt)) w1 := ⟨pt, p2, kt, k2, by rw [htl], by rw [htl]; exact hK1.told, by rw [List.length_drop]; exact hK1.rest, by rw [List.length_drop]; exact hK1.cell, hK1.below⟩
      have HRS := Lib.hid hres
      clear hK1 htl hres
      go_wp2
      go_ret
      exact HRS.out
end Go.Proofs.Ytlgldniepcjfoaa
