/- Layer 4: contracts of the library's heap over the pile. -/
import Derived.Test.YthlpjlcadcgoeaaDueJ
namespace Go.Proofs.Ythlpjlcadcgoeaa
set_option linter.unusedVariables false
set_option linter.unusedSimpArgs false
open Go.ChangeShapes Go.WideShapes Go.ChangeAt Go.RowKit

set_option maxHeartbeats 1000000 in
theorem hup_any (w : World) (pb g cap j n : Nat) (l : List Du) (h : Pile w pb g cap l) (hn : l.length = n) (hm : n ≤ 1000) (hj : j < n) (hu : UpInv l j n) :
    Calls Try.prog 26 #[.iface 55 (.pointer (some ⟨pb, 0, none⟩)), .int .i64 j] w fun e w' => e = .returned (.tuple #[]) ∧ ∃ l', Pile w' pb g cap l' ∧ l'.Perm l ∧ HeapN l' n ∧ Out [g] w w' := by
  have H := Lib.hid h
  have HN := Lib.hid hn
  have HU := Lib.hid hu
  clear h hn hu
  go_enter Try.func26, Try.ntmps26
  go_wp2
  go_loopw [1] (fun s1 wr => ∃ (k : Nat) (l' : List Du), s1 = .int .i64 k ∧ k < n ∧ Pile wr pb g cap l' ∧ l'.length = n ∧ UpInv l' k n ∧ l'.Perm l ∧ Out [g] w wr) (fun s1 _ => (intOf s1).toNat)
  case atStart => exact ⟨j, l, rfl, hj, H.out, HN.out, HU.out, List.Perm.refl _, Out.refl _ _⟩
  case round =>
    obtain ⟨k, l', rfl, hk, hP, hl, hU, hp, hO⟩ := hrel
    clear H HN HU hj
    by_cases hk0 : k = 0
    · subst hk0
      have hE := Lib.hid (And.intro hP (And.intro hp (And.intro (up_zero hU) hO)))
      clear hP hp hU hO hl
      go_wp2
      go_end0
      exact ⟨rfl, l', hE.out.1, hE.out.2.1, hE.out.2.2.1, hE.out.2.2.2⟩
    · obtain ⟨i, hi⟩ : ∃ i, (k - 1) / 2 = i := ⟨_, rfl⟩
      have b1 : (1 : Int) ≤ (k : Int) := by omega
      have b2 : (k : Int) ≤ 1000 := by omega
      have b3 : ((k : Int) - 1) / 2 = (i : Int) := by omega
      have b4 : ((i : Int) == (k : Int)) = false := by simp; omega
      have hik : i < k := by omega
      have hP' := Lib.hid hP
      have HI := Lib.hid hi
      have hl' := Lib.hid hl
      have hE := Lib.hid (And.intro hp (And.intro hU hO))
      clear hP hl hp hU hO hi
      cases hd : dahB (gt l' k) (gt l' i)
      · have hE2 := Lib.hid (up_done hE.out.2.1 (by rw [HI.out]; exact hd))
        go_wp2_with fail
        refine (pless_any wr pb g cap l' k i hP'.out (by rw [hl'.out]; omega) (by rw [hl'.out]; omega)).mono ?_
        rintro e wx ⟨rfl, hgx⟩
        rw [hd]
        go_wp2
        go_end0
        exact ⟨rfl, l', hP'.out.kept hgx, hE.out.1, hE2.out, hE.out.2.2.then hgx⟩
      · have hE2 := Lib.hid (up_step hE.out.2.1 (by rw [hl'.out]; omega) (by omega) hk (by rw [HI.out]; exact hd))
        go_wp2_with fail
        refine (pless_any wr pb g cap l' k i hP'.out (by rw [hl'.out]; omega) (by rw [hl'.out]; omega)).mono ?_
        rintro e wx ⟨rfl, hgx⟩
        rw [hd]
        go_wp2_with fail
        refine (pswap_any wx pb g cap l' i k (hP'.out.kept hgx) (by rw [hl'.out]; omega) (by rw [hl'.out]; omega)).mono ?_
        rintro e wy ⟨rfl, hPy, hOy⟩
        have hPy' := Lib.hid hPy
        have hOy' := Lib.hid hOy
        clear hPy hOy hd
        go_wp2
        go_roundw
        case rel => exact ⟨i, sw l' i k, rfl, by omega, hPy'.out, by rw [sw_len]; exact hl'.out, by rw [← HI.out]; exact hE2.out, (sw_perm (by rw [hl'.out]; omega) (by rw [hl'.out]; omega)).trans hE.out.1, (hE.out.2.2.then hgx).trans hOy'.out (fun _ h => .inl h)⟩
        case measure => simp [intOf]; omega

def DownPost (pb g cap n : Nat) (l : List Du) (w : World) (e : Ending) (w' : World) : Prop :=
  ∃ (b : Bool) (l' : List Du), e = .returned (.bool b) ∧ Pile w' pb g cap l' ∧ l'.Perm l ∧ HeapN l' n ∧ (∀ k, n ≤ k → gt l' k = gt l k) ∧ Out [g] w w'

set_option maxHeartbeats 2000000 in
theorem hdown_any (w : World) (pb g cap n N : Nat) (l : List Du) (h : Pile w pb g cap l) (hN : l.length = N) (hn : n ≤ N) (hm : N ≤ 1000) (hu : DownInv l 0 n) :
    Calls Try.prog 27 #[.iface 55 (.pointer (some ⟨pb, 0, none⟩)), .int .i64 0, .int .i64 n] w (DownPost pb g cap n l w) := by
  have H := Lib.hid h
  have HN := Lib.hid hN
  have HU := Lib.hid hu
  clear h hN hu
  go_enter Try.func27, Try.ntmps27
  go_wp2
  go_loopw [7] (fun s7 wr => ∃ (k : Nat) (l' : List Du), s7 = .int .i64 k ∧ k ≤ N ∧ Pile wr pb g cap l' ∧ l'.length = N ∧ DownInv l' k n ∧ l'.Perm l ∧ (∀ x, n ≤ x → gt l' x = gt l x) ∧ Out [g] w wr) (fun s7 _ => N - (intOf s7).toNat)
  case atStart => exact ⟨0, l, rfl, by omega, H.out, HN.out, HU.out, List.Perm.refl _, fun _ _ => rfl, Out.refl _ _⟩
  case round =>
    obtain ⟨k, l', rfl, hk, hP, hl, hU, hp, hg, hO⟩ := hrel
    clear H HN HU
    have b0 : (0 : Int) ≤ (k : Int) := by omega
    have b1 : (k : Int) ≤ 1000 := by omega
    obtain ⟨J1, hJ1⟩ : ∃ J1, 2 * k + 1 = J1 := ⟨_, rfl⟩
    have e1 : (2 : Int) * (k : Int) + 1 = (J1 : Int) := by omega
    have b2 : (0 : Int) ≤ (J1 : Int) := by omega
    have b5 : (J1 : Int) ≤ 2001 := by omega
    have HJ1 := Lib.hid hJ1
    by_cases h1 : n ≤ J1
    · have b3 : (n : Int) ≤ (J1 : Int) := by omega
      have hE := Lib.hid (And.intro hP (And.intro hp (And.intro (down_leaf hU (by omega)) (And.intro hg hO))))
      clear hP hl hU hp hg hO hJ1
      go_wp2
      go_ret
      exact ⟨_, l', rfl, hE.out.1, hE.out.2.1, hE.out.2.2.1, hE.out.2.2.2.1, hE.out.2.2.2.2⟩
    · have b3 : (J1 : Int) < (n : Int) := by omega
      obtain ⟨J2, hJ2⟩ : ∃ J2, J1 + 1 = J2 := ⟨_, rfl⟩
      have e2 : (J1 : Int) + 1 = (J2 : Int) := by omega
      have hP' := Lib.hid hP
      have hl' := Lib.hid hl
      have hKb := kid_bd (l := l') (i := k) (n := n) (by omega)
      have hE := Lib.hid (And.intro hp (And.intro hU (And.intro hg hO)))
      clear hP hl hU hp hg hO
      have hJ1' := hJ1
      have HJ2 := Lib.hid hJ2
      by_cases h2 : J2 < n
      · have b4 : (J2 : Int) < (n : Int) := by omega
        cases hc : dahB (gt l' J2) (gt l' J1)
        · have hK : Hid (kid l' k n = J1) := by
            show kid l' k n = J1
            unfold kid
            rw [if_neg (by rintro ⟨_, hx⟩; rw [show 2 * k + 2 = J2 by omega, hJ1, hc] at hx; cases hx)]; omega
          clear hJ1 hJ2 hJ1' hKb
          go_wp2_with fail
          refine (pless_any wr pb g cap l' J2 J1 hP'.out (by rw [hl'.out]; omega) (by rw [hl'.out]; omega)).mono ?_
          rintro e wx ⟨rfl, hgx⟩
          rw [hc]
          clear hc
          go_wp2_with fail; refine (pless_any _ pb g cap l' J1 k (hP'.out.kept hgx) (by rw [hl'.out]; omega) (by rw [hl'.out]; omega)).mono ?_; rintro e wy ⟨rfl, hgy⟩; have hgz : Below wr.heap.size wr wy := kept_trans hgx hgy; have hPy := Lib.hid (hP'.out.kept hgz); cases hd : dahB (gt l' J1) (gt l' k)
          · have hE2 := Lib.hid (down_done hE.out.2.1 (by rw [hK.out]; exact hd)); clear hd; go_wp2; go_ret; exact ⟨_, l', rfl, hPy.out, hE.out.1, hE2.out, hE.out.2.2.1, hE.out.2.2.2.then hgz⟩
          · have q1 := HJ1.out
            have hE2 := Lib.hid (down_step hE.out.2.1 (by rw [hl'.out]; omega) (by omega) (by rw [hK.out]; exact hd)); clear hd; go_wp2_with fail; refine (pswap_any wy pb g cap l' k J1 hPy.out (by rw [hl'.out]; omega) (by rw [hl'.out]; omega)).mono ?_; rintro e wz ⟨rfl, hPz, hOz⟩; have hPz' := Lib.hid hPz; have hOz' := Lib.hid hOz; clear hPz hOz; go_wp2; go_roundw
            case rel => exact ⟨J1, sw l' k J1, rfl, by omega, hPz'.out, by rw [sw_len]; exact hl'.out, by rw [← hK.out]; exact hE2.out, (sw_perm (by rw [hl'.out]; omega) (by rw [hl'.out]; omega)).trans hE.out.1, (fun x hx => (sw_o (by rw [hl'.out]; omega) (by rw [hl'.out]; omega) (by omega) (by omega)).trans (hE.out.2.2.1 x hx)), (hE.out.2.2.2.then hgz).trans hOz'.out (fun _ h => .inl h)⟩
            case measure => simp [intOf]; omega
        · have hK : Hid (kid l' k n = J2) := by
            show kid l' k n = J2
            unfold kid
            rw [if_pos ⟨by omega, by rw [show 2 * k + 2 = J2 by omega, hJ1]; exact hc⟩]; omega
          clear hJ1 hJ2 hJ1' hKb
          go_wp2_with fail
          refine (pless_any wr pb g cap l' J2 J1 hP'.out (by rw [hl'.out]; omega) (by rw [hl'.out]; omega)).mono ?_
          rintro e wx ⟨rfl, hgx⟩
          rw [hc]
          clear hc
          go_wp2_with fail; refine (pless_any _ pb g cap l' J2 k (hP'.out.kept hgx) (by rw [hl'.out]; omega) (by rw [hl'.out]; omega)).mono ?_; rintro e wy ⟨rfl, hgy⟩; have hgz : Below wr.heap.size wr wy := kept_trans hgx hgy; have hPy := Lib.hid (hP'.out.kept hgz); cases hd : dahB (gt l' J2) (gt l' k)
          · have hE2 := Lib.hid (down_done hE.out.2.1 (by rw [hK.out]; exact hd)); clear hd; go_wp2; go_ret; exact ⟨_, l', rfl, hPy.out, hE.out.1, hE2.out, hE.out.2.2.1, hE.out.2.2.2.then hgz⟩
          · have q1 := HJ1.out
            have q2 := HJ2.out
            have hE2 := Lib.hid (down_step hE.out.2.1 (by rw [hl'.out]; omega) (by omega) (by rw [hK.out]; exact hd)); clear hd; go_wp2_with fail; refine (pswap_any wy pb g cap l' k J2 hPy.out (by rw [hl'.out]; omega) (by rw [hl'.out]; omega)).mono ?_; rintro e wz ⟨rfl, hPz, hOz⟩; have hPz' := Lib.hid hPz; have hOz' := Lib.hid hOz; clear hPz hOz; go_wp2; go_roundw
            case rel => exact ⟨J2, sw l' k J2, rfl, by omega, hPz'.out, by rw [sw_len]; exact hl'.out, by rw [← hK.out]; exact hE2.out, (sw_perm (by rw [hl'.out]; omega) (by rw [hl'.out]; omega)).trans hE.out.1, (fun x hx => (sw_o (by rw [hl'.out]; omega) (by rw [hl'.out]; omega) (by omega) (by omega)).trans (hE.out.2.2.1 x hx)), (hE.out.2.2.2.then hgz).trans hOz'.out (fun _ h => .inl h)⟩
            case measure => simp [intOf]; omega
      · have b4 : (n : Int) ≤ (J2 : Int) := by omega
        have hK : Hid (kid l' k n = J1) := by
          show kid l' k n = J1
          unfold kid
          rw [if_neg (by omega)]; omega
        clear hJ1 hJ2 hJ1' hKb
        have hgx : Below wr.heap.size wr wr := Below.refl _ _
        go_wp2_with fail; refine (pless_any _ pb g cap l' J1 k (hP'.out.kept hgx) (by rw [hl'.out]; omega) (by rw [hl'.out]; omega)).mono ?_; rintro e wy ⟨rfl, hgy⟩; have hgz : Below wr.heap.size wr wy := kept_trans hgx hgy; have hPy := Lib.hid (hP'.out.kept hgz); cases hd : dahB (gt l' J1) (gt l' k)
        · have hE2 := Lib.hid (down_done hE.out.2.1 (by rw [hK.out]; exact hd)); clear hd; go_wp2; go_ret; exact ⟨_, l', rfl, hPy.out, hE.out.1, hE2.out, hE.out.2.2.1, hE.out.2.2.2.then hgz⟩
        · have q1 := HJ1.out
          have hE2 := Lib.hid (down_step hE.out.2.1 (by rw [hl'.out]; omega) (by omega) (by rw [hK.out]; exact hd)); clear hd; go_wp2_with fail; refine (pswap_any wy pb g cap l' k J1 hPy.out (by rw [hl'.out]; omega) (by rw [hl'.out]; omega)).mono ?_; rintro e wz ⟨rfl, hPz, hOz⟩; have hPz' := Lib.hid hPz; have hOz' := Lib.hid hOz; clear hPz hOz; go_wp2; go_roundw
          case rel => exact ⟨J1, sw l' k J1, rfl, by omega, hPz'.out, by rw [sw_len]; exact hl'.out, by rw [← hK.out]; exact hE2.out, (sw_perm (by rw [hl'.out]; omega) (by rw [hl'.out]; omega)).trans hE.out.1, (fun x hx => (sw_o (by rw [hl'.out]; omega) (by rw [hl'.out]; omega) (by omega) (by omega)).trans (hE.out.2.2.1 x hx)), (hE.out.2.2.2.then hgz).trans hOz'.out (fun _ h => .inl h)⟩
          case measure => simp [intOf]; omega
end Go.Proofs.Ythlpjlcadcgoeaa
