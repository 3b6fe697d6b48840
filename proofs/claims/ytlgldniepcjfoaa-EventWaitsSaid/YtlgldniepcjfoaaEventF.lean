/- Layer 6: what threads wait for, as plain mathematics: an event is its epoch and its line. -/
import Derived.Test.YtlgldniepcjfoaaLineF
namespace Go.Proofs.Ytlgldniepcjfoaa
set_option linter.unusedVariables false
set_option linter.unusedSimpArgs false

def okE (ep : Int) (l : List Int) : Bool := decide (0 ≤ ep) && decide (ep ≤ 1099511627776) && okLn l
def prE (ep : Int) (l : List Int) : Int := if okE ep l = true then ep else -1
/-- The next epoch. -/
def nxE (ep : Int) : Int := if ep + 1 ≤ 1099511627776 then ep + 1 else 1099511627776
def ntE (ep : Int) (l : List Int) : Int := if okE ep l = true then nxE ep else ep
/-- A notice for so many at most: who stays, and who is told. -/
def ntL (m : Nat) (ep : Int) (l : List Int) : List Int := if okE ep l = true then l.drop m else l
def ntT (m : Nat) (ep : Int) (l : List Int) : List Int := if okE ep l = true then l.take m else []
def cmC (ep : Int) (l : List Int) (i : Int) : Int := if okE ep l = true then entE l i else 40
def cmB (ep : Int) (l : List Int) (s i : Int) : Bool := okE ep l && (entE l i == 0) && (ep == s)
def cmL (ep : Int) (l : List Int) (s i : Int) : List Int := if cmB ep l s i = true then l ++ [i] else l
def cnL (ep : Int) (l : List Int) (i : Int) : List Int := if okE ep l = true then lvL l i else l
def cnB (ep : Int) (l : List Int) (i : Int) : Bool := okE ep l && (lvE l i == 0)
/-- Who is first, and whether there is one. -/
def hdI (l : List Int) : Int := l.headD 0
def hdB (l : List Int) : Bool := !l.isEmpty

theorem okE_iff {ep : Int} {l : List Int} : okE ep l = true ↔ (0 ≤ ep ∧ ep ≤ 1099511627776) ∧ okLn l = true := by
  simp [okE]
theorem okE_ln {ep : Int} {l : List Int} (h : okE ep l = true) : okLn l = true := (okE_iff.1 h).2
theorem okE_nx {ep : Int} {l m : List Int} (h : okE ep l = true) (hm : okLn m = true) : okE (nxE ep) m = true := by
  obtain ⟨⟨h1, h2⟩, _⟩ := okE_iff.1 h
  refine okE_iff.2 ⟨?_, hm⟩
  unfold nxE
  split <;> omega
theorem okE_with {ep : Int} {l m : List Int} (h : okE ep l = true) (hm : okLn m = true) : okE ep m = true := okE_iff.2 ⟨(okE_iff.1 h).1, hm⟩
theorem ok_nil : okLn [] = true := by decide
theorem ok_lv {l : List Int} (h : okLn l = true) (i : Int) : okLn (lvL l i) = true := by
  by_cases hv : lvE l i = 0
  · obtain ⟨-, s, t, -, -, -, -, hlv, hst⟩ := line_split (lv_yes hv)
    rw [hlv]; exact hst
  · rw [(lv_no hv).2]; exact h
theorem ok_drop' {l : List Int} (h : okLn l = true) (m : Nat) : okLn (l.drop m) = true := ok_drop h m

/-! ### Who commits -/
theorem cm_ok {ep s : Int} {l : List Int} {i : Int} (h : okE ep l = true) : cmC ep l i = entE l i ∧ cmB ep l s i = ((entE l i == 0) && (ep == s)) := by simp [cmC, cmB, h]
theorem cm_no {ep s : Int} {l : List Int} {i : Int} (h : okE ep l = false) : cmC ep l i = 40 ∧ cmB ep l s i = false ∧ cmL ep l s i = l := by simp [cmC, cmB, cmL, h]
/-- Who may enter may enter what is behind, too. -/
theorem ent_drop {l : List Int} {i : Int} (h : entE l i = 0) (m : Nat) : entE (l.drop m) i = 0 := by
  obtain ⟨h1, h2, h3⟩ := ent_ok h
  exact ent_ok' (ok_drop h1 m) h2 (fun hm => h3 (List.mem_of_mem_drop hm))
/-- Who saw an event, and commits at once. -/
theorem seen_now {ep : Int} {l : List Int} (h : okE ep l = true) (i : Int) :
    prE ep l = ep ∧ cmC ep l i = entE l i ∧ cmB ep l ep i = (entE l i == 0) := by
  obtain ⟨h1, h2⟩ := cm_ok (s := ep) (i := i) h
  exact ⟨by simp [prE, h], h1, by rw [h2]; simp⟩
theorem waits_place {ep : Int} {l : List Int} {i : Int} (h : cmB ep l ep i = true) : cmL ep l ep i = l ++ [i] ∧ plI (cmL ep l ep i) i = l.length := by
  have hL : cmL ep l ep i = l ++ [i] := by simp [cmL, h]
  rw [hL]
  refine ⟨rfl, pl_snoc ?_⟩
  simp [cmB] at h
  exact h.2
/-- One that came between. -/
theorem came_late {ep : Int} {l : List Int} (h : okE ep l = true) (h0 : ep ≠ 1099511627776) (m : Nat) (i : Int) :
    ntE ep l = ep + 1 ∧ ntL m ep l = l.drop m ∧ cmB (ep + 1) (l.drop m) ep i = false ∧ cmC (ep + 1) (l.drop m) i = entE (l.drop m) i ∧ (entE l i = 0 → entE (l.drop m) i = 0) := by
  obtain ⟨⟨h1, h2⟩, h3⟩ := okE_iff.1 h
  have hn : nxE ep = ep + 1 := by unfold nxE; rw [if_pos (by omega)]
  have hk : okE (ep + 1) (l.drop m) = true := by rw [← hn]; exact okE_nx h (ok_drop h3 m)
  obtain ⟨c1, c2⟩ := cm_ok (s := ep) (i := i) hk
  refine ⟨by simp [ntE, h, hn], by simp [ntL, h], ?_, c1, fun he => ent_drop he m⟩
  rw [c2]
  have : (ep + 1 == ep) = false := by simp; omega
  rw [this, Bool.and_false]

/-! ### Notices, one by one -/
theorem hd_drop {l : List Int} {j : Nat} (hj : j < l.length) : hdI (l.drop j) = l[j] ∧ hdB (l.drop j) = true := by
  have hc : l.drop j = l[j] :: l.drop (j + 1) := List.drop_eq_getElem_cons hj
  rw [hc]; exact ⟨rfl, rfl⟩
theorem hd_end (l : List Int) : hdB (l.drop l.length) = false ∧ hdI (l.drop l.length) = 0 := by simp [hdB, hdI]
theorem nxE_min {ep : Int} : nxE ep = min (ep + 1) 1099511627776 := by unfold nxE; rw [Int.min_def]
/-- Whom the notice number j tells stands at j. -/
theorem waits_at {l : List Int} (h : okLn l = true) {j : Nat} (hj : j < l.length) (i : Int) : (l[j] = i) ↔ ((j : Int) = plI l i) := by
  have hp : plI l i = ixI l i := by unfold plI; rw [if_pos h]
  rw [hp]
  constructor
  · rintro rfl
    refine ((ix_self hj).2 ?_).symm
    intro hm
    exact not_nodup_of_take hj hm (ok_iff.1 h).2
  · intro e
    have h1 := ix_get (l := l) (i := i) (by omega)
    rw [← e, Int.toNat_natCast, List.getElem?_eq_getElem hj] at h1
    simpa using h1
theorem pl_nil (i : Int) : plI [] i = -1 := by simp [plI, ok_nil, ixI]
end Go.Proofs.Ytlgldniepcjfoaa
