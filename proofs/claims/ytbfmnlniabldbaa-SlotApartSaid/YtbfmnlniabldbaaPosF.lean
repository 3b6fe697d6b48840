/- Plain functions of layer 1 (positions of a ring, and its word), the program's and the document's, and that they are one. -/
import Derived.Test.YtbfmnlniabldbaaBase
namespace Go.Proofs.Ytbfmnlniabldbaa
set_option linter.unusedVariables false
set_option linter.unusedSimpArgs false

def liesB (p r : Int) : Bool := decide (0 ≤ p) && decide (1 ≤ r)
def placeI (p r : Int) : Int := if liesB p r then p % r else 0
def lapI (p r : Int) : Int := if liesB p r then p / r else 0
def aheadB (p q r : Int) : Bool := liesB p r && liesB q r && decide (p < q) && decide (placeI p r = placeI q r)
def emptyB (h t : Int) : Bool := decide (h = t)
def lenI (h t : Int) : Int := if t ≤ h then 0 else if t - h ≤ 9223372036854775807 then t - h else 9223372036854775807
def checkB (h t m r : Int) : Bool := decide (0 ≤ h) && decide (h ≤ t) && decide (t ≤ 1099511627776) && decide (0 ≤ m) && decide (m ≤ 2) && decide (lenI h t ≤ r)
def fullB (h t r : Int) : Bool := decide (r ≤ lenI h t)

theorem lies_t {p r : Int} (h : liesB p r = true) : 0 ≤ p ∧ 1 ≤ r := by simpa [liesB] using h
theorem lies_f {p r : Int} (h : liesB p r = false) : p < 0 ∨ r < 1 := by simp [liesB] at h; omega
theorem lies_of {p r : Int} (h : 0 ≤ p) (h' : 1 ≤ r) : liesB p r = true := by simp [liesB, h, h']
theorem empty_t {h t : Int} (e : emptyB h t = true) : h = t := by simpa [emptyB] using e
theorem place_of {p r : Int} (h : 0 ≤ p) (h' : 1 ≤ r) : placeI p r = p % r := by simp [placeI, lies_of h h']
theorem lap_of {p r : Int} (h : 0 ≤ p) (h' : 1 ≤ r) : lapI p r = p / r := by simp [lapI, lies_of h h']
theorem place_in (p r : Int) (hp : In64 p) (hr : In64 r) : In64 (placeI p r) := by
  unfold placeI
  split
  · rename_i h
    obtain ⟨h1, h2⟩ := lies_t h
    have := Int.emod_nonneg p (show r ≠ 0 by omega)
    have := Int.emod_lt_of_pos p (show 0 < r by omega)
    unfold In64; omega
  · unfold In64; omega
theorem lap_in (p r : Int) (hp : In64 p) (hr : In64 r) : In64 (lapI p r) := by
  unfold lapI
  split
  · rename_i h
    obtain ⟨h1, h2⟩ := lies_t h
    have h3 : 0 ≤ p / r := Int.ediv_nonneg h1 (by omega)
    have h4 : p / r ≤ p := Int.ediv_le_self _ h1
    unfold In64 at *; omega
  · unfold In64; omega
theorem len_in (h t : Int) : 0 ≤ lenI h t ∧ lenI h t ≤ 9223372036854775807 := by
  unfold lenI; split
  · omega
  · split <;> omega
theorem ahead_of {p q r : Int} (hp : 0 ≤ p) (hq : 0 ≤ q) (hr : 1 ≤ r) : aheadB p q r = (decide (p < q) && decide (p % r = q % r)) := by
  simp [aheadB, lies_of, place_of, *]

/- The document's. -/
def rLenI (h t : Int) : Int := if t < h then 0 else if h < 0 ∧ 0 ≤ t ∧ 9223372036854775807 + h < t then 9223372036854775807 else t - h
def rCheckB (h t m r : Int) : Bool := decide (0 ≤ h) && decide (h ≤ t) && decide (t ≤ 1099511627776) && decide (t - h ≤ r) && decide (0 ≤ m) && decide (m ≤ 2)
def rPlaceI (p r : Int) : Int := if p < 0 ∨ r < 1 then 0 else p - p / r * r
def rLapI (p r : Int) : Int := if p < 0 ∨ r < 1 then 0 else (p - rPlaceI p r) / r
def rAheadB (p q r : Int) : Bool := if p < 0 ∨ q < 0 ∨ r < 1 then false else decide (p < q) && decide ((q - p) % r = 0)

theorem len_ref {h t : Int} (hh : In64 h) (ht : In64 t) : lenI h t = rLenI h t := by
  unfold lenI rLenI In64 at *
  (repeat' split) <;> omega
theorem check_ref {h t m r : Int} (hr : In64 r) : checkB h t m r = rCheckB h t m r := by
  unfold checkB rCheckB lenI In64 at *
  rw [Bool.eq_iff_iff]
  simp only [Bool.and_eq_true, decide_eq_true_eq]
  constructor
  · intro ⟨⟨⟨⟨⟨a, b⟩, c⟩, d⟩, e⟩, f⟩
    split at f
    · omega
    · split at f <;> omega
  · intro ⟨⟨⟨⟨⟨a, b⟩, c⟩, d⟩, e⟩, f⟩
    split
    · omega
    · split <;> omega
theorem place_ref {p r : Int} : placeI p r = rPlaceI p r := by
  unfold rPlaceI
  split
  · rename_i h
    have : liesB p r = false := by simp [liesB]; omega
    simp [placeI, this]
  · rename_i h
    rw [place_of (by omega) (by omega), Int.emod_def, Int.mul_comm]
theorem lap_ref {p r : Int} : lapI p r = rLapI p r := by
  unfold rLapI
  rw [← place_ref]
  split
  · rename_i h
    have : liesB p r = false := by simp [liesB]; omega
    simp [lapI, this]
  · rename_i h
    rw [place_of (by omega) (by omega), lap_of (by omega) (by omega), Int.emod_def]
    rw [show p - (p - r * (p / r)) = (p / r) * r by rw [Int.mul_comm r]; omega, Int.mul_ediv_cancel _ (by omega)]
theorem ahead_ref {p q r : Int} : aheadB p q r = rAheadB p q r := by
  unfold rAheadB
  split
  · rename_i h
    by_cases h1 : 0 ≤ p
    · by_cases h2 : 0 ≤ q
      · simp [aheadB, liesB]; omega
      · simp [aheadB, liesB]; omega
    · simp [aheadB, liesB]; omega
  · rename_i h
    rw [ahead_of (by omega) (by omega) (by omega)]
    congr 1
    rw [Bool.eq_iff_iff]
    simp only [decide_eq_true_eq]
    rw [Int.sub_emod]
    constructor
    · intro h; rw [h]; simp
    · intro h'
      have a1 := Int.emod_nonneg p (show r ≠ 0 by omega)
      have a2 := Int.emod_lt_of_pos p (show 0 < r by omega)
      have b1 := Int.emod_nonneg q (show r ≠ 0 by omega)
      have b2 := Int.emod_lt_of_pos q (show 0 < r by omega)
      by_cases hc : p % r ≤ q % r
      · rw [Int.emod_eq_of_lt (by omega) (by omega)] at h'; omega
      · have : (q % r - p % r + r) % r = 0 := by rw [Int.add_emod_right]; exact h'
        rw [Int.emod_eq_of_lt (by omega) (by omega)] at this; omega

theorem place_bd {p r : Int} (h : 0 ≤ p) (h' : 1 ≤ r) : 0 ≤ placeI p r ∧ placeI p r < r := by
  rw [place_of h h']; exact ⟨Int.emod_nonneg _ (by omega), Int.emod_lt_of_pos _ (by omega)⟩
theorem lap_bd {p r : Int} (h : 0 ≤ p) (h' : 1 ≤ r) : 0 ≤ lapI p r ∧ lapI p r ≤ p := by
  rw [lap_of h h']; exact ⟨Int.ediv_nonneg h (by omega), Int.ediv_le_self _ h⟩
theorem splits {p r : Int} (h : 0 ≤ p) (h' : 1 ≤ r) : p = lapI p r * r + placeI p r := by
  rw [place_of h h', lap_of h h', Int.mul_comm]; exact (Int.mul_ediv_add_emod p r).symm
/- A position's lap and place are the only ones that make it. -/
theorem splits_one {p r a b : Int} (h : 0 ≤ p) (h' : 1 ≤ r) (hb : 0 ≤ b) (hb' : b < r) (e : p = a * r + b) : lapI p r = a ∧ placeI p r = b := by
  have h1 : placeI p r = b := by
    rw [place_of h h', e, Int.add_comm, Int.add_mul_emod_self_right, Int.emod_eq_of_lt hb hb']
  refine ⟨?_, h1⟩
  rw [lap_of h h', e, Int.add_comm, Int.add_mul_ediv_right _ _ (by omega), Int.ediv_eq_zero_of_lt hb hb']
  omega
theorem next_same {p r : Int} (h : 0 ≤ p) (h' : 1 ≤ r) (hn : placeI p r + 1 < r) : lapI (p + 1) r = lapI p r ∧ placeI (p + 1) r = placeI p r + 1 := by
  have := splits h h'
  have := place_bd h h'
  exact splits_one (by omega) h' (by omega) hn (by omega)
theorem next_lap {p r : Int} (h : 0 ≤ p) (h' : 1 ≤ r) (hn : placeI p r + 1 = r) : lapI (p + 1) r = lapI p r + 1 ∧ placeI (p + 1) r = 0 := by
  have := splits h h'
  exact splits_one (by omega) h' (by omega) (by omega) (by rw [Int.add_mul]; omega)
theorem laps_later {p r k : Int} (h : 0 ≤ p) (h' : 1 ≤ r) (hk : 0 ≤ k) : lapI (p + k * r) r = lapI p r + k ∧ placeI (p + k * r) r = placeI p r := by
  have := splits h h'
  have := place_bd h h'
  have : 0 ≤ k * r := Int.mul_nonneg hk (by omega)
  exact splits_one (by omega) h' (by omega) (by omega) (by rw [Int.add_mul]; omega)
theorem ahead_is {p q r : Int} (hp : 0 ≤ p) (hq : 0 ≤ q) (hr : 1 ≤ r) : aheadB p q r = (decide (p < q) && decide (placeI p r = placeI q r)) := by
  simp [aheadB, lies_of, *]
/- Two positions less than a room apart lie at one place only if they are one. -/
theorem place_apart {p q r : Int} (hp : 0 ≤ p) (hq : 0 ≤ q) (hr : 1 ≤ r) (h1 : q < p + r) (h2 : p < q + r) : placeI p r = placeI q r ↔ p = q := by
  constructor
  · intro e
    have a := splits hp hr
    have b := splits hq hr
    have hc : (lapI p r - lapI q r) * r = p - q := by rw [Int.sub_mul]; omega
    by_cases h : lapI p r - lapI q r ≤ -1
    · have := Int.mul_le_mul_of_nonneg_right h (show 0 ≤ r by omega); omega
    · by_cases h : 1 ≤ lapI p r - lapI q r
      · have := Int.mul_le_mul_of_nonneg_right h (show 0 ≤ r by omega); omega
      · have : lapI p r - lapI q r = 0 := by omega
        rw [this] at hc; omega
  · intro e; rw [e]
theorem check_len {h t m r : Int} (c : checkB h t m r = true) : 0 ≤ h ∧ h ≤ t ∧ t ≤ 1099511627776 ∧ 0 ≤ m ∧ m ≤ 2 ∧ lenI h t = t - h ∧ t - h ≤ r := by
  simp [checkB] at c
  have : lenI h t = t - h := by unfold lenI; split <;> omega
  omega
end Go.Proofs.Ytbfmnlniabldbaa
