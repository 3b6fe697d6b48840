/- Who has taken something gets, with the next step, what was told, as long as it is the turn of its slot, and lets the next lap come: true of every state and thread. -/
import Derived.Test.YtjbcfjfnobklkaaGreatZb13
namespace Go.Proofs.YtjbcfjfnobklkaaGreat
set_option linter.unusedVariables false
set_option linter.unusedSimpArgs false
open Go.ChangeShapes Go.WideShapes Go.ChangeAt Go.RowKit
section
variable {s a b : St} {n : Nat} {t u v : Th} {x y : Slo} (hF : fewB s = true) (hC : AC Tryz.prog 21 [stT s] (.bool true)) (hn : n < s.th.length) (hS : AC Tryz.prog 15 [stT s, .int .i64 n] (stT a)) (hla : ((a.th.length : Int) != s.th.length) = false) (hsl : ((s.sl.length : Int) == 0) = false)
include hF hC hn hS hla hsl
set_option maxRecDepth 100000 in
theorem rd_lg (hl : decide ((a.lg.length : Int) ≤ s.lg.length) = true) : AC Tryz.prog 8 [stT s, .int .i64 n] (.bool true) :=
  ac_path mixed (ext := [10, 11, 15, 21]) (fuel := 9) (n := 4) (orc := [vD true, vD true, vD true, .bool false, .bool false, stT a, .bool false, .bool false, .bool true]) (an ac_awakeR <| an (hF ▸ ac_rfew s) <| an hC <| an (show decide ((n : Int) < 0) = false by simp) <| an (show decide ((s.th.length : Int) ≤ n) = false by simp; omega) <| an hS <| an hla <| an hsl <| an hl trivial) (by kernel_rfl)
variable (hl : decide ((a.lg.length : Int) ≤ s.lg.length) = false) (ht : IxP ((s.th.map thT).toArray) (n : Int) (thT t))
include hl ht
set_option maxRecDepth 100000 in
theorem rd_p3 (h3 : (t.pc != 3) = true) : AC Tryz.prog 8 [stT s, .int .i64 n] (.bool true) :=
  ac_path mixed (ext := [10, 11, 15, 21]) (fuel := 9) (n := 4) (orc := [vD true, vD true, vD true, .bool false, .bool false, stT a, .bool false, .bool false, .bool false, thT t, .bool true]) (an ac_awakeR <| an (hF ▸ ac_rfew s) <| an hC <| an (show decide ((n : Int) < 0) = false by simp) <| an (show decide ((s.th.length : Int) ≤ n) = false by simp; omega) <| an hS <| an hla <| an hsl <| an hl <| an ht <| an h3 trivial) (by kernel_rfl)
variable (h3 : (t.pc != 3) = false) (hu : IxP ((a.th.map thT).toArray) (n : Int) (thT u))
include h3 hu
set_option maxRecDepth 100000 in
theorem rd_p4 (h4 : (u.pc != 4) = true) : AC Tryz.prog 8 [stT s, .int .i64 n] (.bool true) :=
  ac_path mixed (ext := [10, 11, 15, 21]) (fuel := 9) (n := 4) (orc := [vD true, vD true, vD true, .bool false, .bool false, stT a, .bool false, .bool false, .bool false, thT t, .bool false, thT u, .bool true]) (an ac_awakeR <| an (hF ▸ ac_rfew s) <| an hC <| an (show decide ((n : Int) < 0) = false by simp) <| an (show decide ((s.th.length : Int) ≤ n) = false by simp; omega) <| an hS <| an hla <| an hsl <| an hl <| an ht <| an h3 <| an hu <| an h4 trivial) (by kernel_rfl)
variable (h4 : (u.pc != 4) = false) (hSb : AC Tryz.prog 15 [stT a, .int .i64 n] (stT b)) (hre : decide (u.re < 0) = false) (hlb : ((b.th.length : Int) != s.th.length) = false) (hsb : ((b.sl.length : Int) != s.sl.length) = false) (hrm : 0 ≤ u.re ∧ (0 : Int) < s.sl.length) (hx : IxP ((s.sl.map slT).toArray) (u.re % s.sl.length) (slT x)) (hhd : (u.re == s.hd) = true) (hv : IxP ((b.th.map thT).toArray) (n : Int) (thT v)) (h6 : (v.pc == 6) = true)
include h4 hSb hre hlb hsb hrm hx hhd hv h6
set_option maxRecDepth 100000 in
theorem rd_no (hx0 : (!(x.st == u.re)) = true) : AC Tryz.prog 8 [stT s, .int .i64 n] (.bool true) :=
  ac_path mixed (ext := [10, 11, 15, 21]) (fuel := 9) (n := 4) (orc := [vD true, vD true, vD true, .bool false, .bool false, stT a, .bool false, .bool false, .bool false, thT t, .bool false, thT u, .bool false, thT u, stT b, .bool false, .bool false, .bool false, slT x, .bool true, thT v, .bool true, .bool true])
    (an ac_awakeR <| an (hF ▸ ac_rfew s) <| an hC <| an (show decide ((n : Int) < 0) = false by simp) <| an (show decide ((s.th.length : Int) ≤ n) = false by simp; omega) <| an hS <| an hla <| an hsl <| an hl <| an ht <| an h3 <| an hu <| an h4 <| an hu <| an hSb <| an hre <| an hlb <| an hsb <| an hrm <| an hx <| an hhd <| an hv <| an h6 <| an hx0 trivial) (by kernel_rfl)
set_option maxRecDepth 100000 in
theorem rd_yes (hx0 : (!(x.st == u.re)) = false) (hgo : (v.go == u.go) = true) (hy : IxP ((b.sl.map slT).toArray) (u.re % s.sl.length) (slT y)) (hi : In64 (u.re + s.sl.length)) : AC Tryz.prog 8 [stT s, .int .i64 n] (.bool (y.st == u.re + s.sl.length)) :=
  ac_path mixed (ext := [10, 11, 15, 21]) (fuel := 9) (n := 4) (orc := [vD true, vD true, vD true, .bool false, .bool false, stT a, .bool false, .bool false, .bool false, thT t, .bool false, thT u, .bool false, thT u, stT b, .bool false, .bool false, .bool false, slT x, .bool true, thT v, .bool true, .bool false, thT v, thT u, .bool true, slT y])
    (an ac_awakeR <| an (hF ▸ ac_rfew s) <| an hC <| an (show decide ((n : Int) < 0) = false by simp) <| an (show decide ((s.th.length : Int) ≤ n) = false by simp; omega) <| an hS <| an hla <| an hsl <| an hl <| an ht <| an h3 <| an hu <| an h4 <| an hu <| an hSb <| an hre <| an hlb <| an hsb <| an hrm <| an hx <| an hhd <| an hv <| an h6 <| an hx0 <| an hv <| an hu <| an hgo <| an hy <| an hi trivial) (by kernel_rfl)
end
section
variable {s : St} {i : Int}
set_option maxRecDepth 100000 in
theorem rdn_1 (hF : fewB s = false) : AC Tryz.prog 8 [stT s, .int .i64 i] (.bool true) := ac_path mixed (ext := [10, 11, 15, 21]) (fuel := 9) (n := 4) (orc := [vD true, vD false]) (an ac_awakeR <| an (hF ▸ ac_rfew s) trivial) (by kernel_rfl)
set_option maxRecDepth 100000 in
theorem rdn_2 (hF : fewB s = true) (hC : AC Tryz.prog 21 [stT s] (.bool false)) : AC Tryz.prog 8 [stT s, .int .i64 i] (.bool true) := ac_path mixed (ext := [10, 11, 15, 21]) (fuel := 9) (n := 4) (orc := [vD true, vD true, vD false]) (an ac_awakeR <| an (hF ▸ ac_rfew s) <| an hC trivial) (by kernel_rfl)
set_option maxRecDepth 100000 in
theorem rdn_3 (hF : fewB s = true) (hC : AC Tryz.prog 21 [stT s] (.bool true)) (h0 : decide (i < 0) = true) : AC Tryz.prog 8 [stT s, .int .i64 i] (.bool true) := ac_path mixed (ext := [10, 11, 15, 21]) (fuel := 9) (n := 4) (orc := [vD true, vD true, vD true, .bool true]) (an ac_awakeR <| an (hF ▸ ac_rfew s) <| an hC <| an h0 trivial) (by kernel_rfl)
set_option maxRecDepth 100000 in
theorem rdn_4 (hF : fewB s = true) (hC : AC Tryz.prog 21 [stT s] (.bool true)) (h0 : decide (i < 0) = false) (h1 : decide ((s.th.length : Int) ≤ i) = true) : AC Tryz.prog 8 [stT s, .int .i64 i] (.bool true) := ac_path mixed (ext := [10, 11, 15, 21]) (fuel := 9) (n := 4) (orc := [vD true, vD true, vD true, .bool false, .bool true]) (an ac_awakeR <| an (hF ▸ ac_rfew s) <| an hC <| an h0 <| an h1 trivial) (by kernel_rfl)
end
theorem ixS7 {l : List Slo} {p : Int} (h0 : 0 ≤ p) (h : plc l p < l.length) (hl : 0 < l.length) : IxP ((l.map slT).toArray) (p % (l.length : Int)) (slT (gs l (plc l p))) := by
  have e : (p % (l.length : Int)).toNat = plc l p := by unfold plc placeI; rw [if_pos (show liesB p (l.length : Int) = true by simp [liesB]; omega)]
  exact ⟨Int.emod_nonneg _ (by omega), by rw [e]; simp [gs_eq h, h]⟩
theorem recvS_off {s : St} {n : Nat} (h : runsB s n 2 = false) : recvS s n = s := by simp [recvS, h]
theorem ac_recvReads {s : St} {i : Int} (ho : s.ok) : AC Tryz.prog 8 [stT s, .int .i64 i] (.bool true) := by
  cases hF : fewB s
  · exact rdn_1 hF
  · obtain ⟨f1, f2, f3⟩ := few_is hF
    cases hB : stB s
    · exact rdn_2 hF (ac_pcheck hB ho)
    · have hC := ac_pcheck hB ho
      by_cases h0 : i < 0
      · exact rdn_3 hF hC (by simpa using h0)
      · by_cases h1 : (s.th.length : Int) ≤ i
        · exact rdn_4 hF hC (by simpa using h0) (by simpa using h1)
        · obtain ⟨n, rfl⟩ : ∃ n : Nat, i = n := ⟨i.toNat, by omega⟩
          have hn : n < s.th.length := by omega
          have hS := ac_vstep (i := n) ho f2 (by omega)
          obtain ⟨oa, la⟩ := recvS_all hB ho (by omega) n
          have hBa : stB (recvS s n) = true := (recvS_stB s n).trans hB
          have hck := check_len (word_ok hB).1
          have hso := (ok_iff.1 (word_ok hB).2.1).1
          have hs0 : ((s.sl.length : Int) == 0) = false := bne_of (by omega)
          cases hr : runsB s n 2
          · rw [recvS_off hr] at hS
            exact rd_lg hF hC hn hS (by simp) hs0 (by simp)
          · obtain ⟨-, h2, h3⟩ := runs_iff.1 hr
            rw [Int.toNat_natCast] at h2 h3
            rw [recvS_is hr] at hS oa la hBa
            have hlen := recvN_len hB hn (by omega)
            have hla : (((recvN s n).th.length : Int) != s.th.length) = false := by simp [hlen]
            cases hl : decide (((recvN s n).lg.length : Int) ≤ s.lg.length)
            · have ht := ixT (l := s.th) hn
              by_cases h3' : (gth s.th n).pc = 3
              · have hu := ixT (l := (recvN s n).th) (n := n) (by omega)
                by_cases h4' : (gth (recvN s n).th n).pc = 4
                · obtain ⟨r1, r2, r3, r4, r5, r6, r7⟩ := recvN_reads hB hn h2 h3 h3' h4'
                  have hSb := ac_vstep (i := n) oa (fit_of hBa (by omega)) (by omega)
                  rw [recvS_is r1] at hSb
                  have hp : plc s.sl s.hd < s.sl.length := by
                    unfold plc
                    have hb := place_bd (p := s.hd) (r := s.sl.length) (by omega) (by omega)
                    omega
                  have hx := ixS7 (l := s.sl) (p := s.hd) (by omega) hp (by omega)
                  rw [← r2] at hx
                  have hv := ixT (l := (recvN (recvN s n) n).th) (n := n) (by omega)
                  have args := rd_no (b := recvN (recvN s n) n) (x := gs s.sl (plc s.sl (gth (recvN s n).th n).re)) hF hC hn hS hla hs0 hl ht (by simp [h3']) hu (by simp [h4']) hSb (by simp; omega) (by simp [r5]) (by simp [r6]) ⟨by omega, by omega⟩ hx (by simp [r2]) hv (by simp [r3])
                  by_cases hst : (gs s.sl (plc s.sl s.hd)).st = s.hd
                  · obtain ⟨q1, q2⟩ := r7 hst
                    have hy : IxP (((recvN (recvN s n) n).sl.map slT).toArray) ((gth (recvN s n).th n).re % (s.sl.length : Int)) (slT (gs (recvN (recvN s n) n).sl (plc s.sl s.hd))) := by
                      have hp2 : plc (recvN (recvN s n) n).sl s.hd = plc s.sl s.hd := by unfold plc; rw [r6]
                      have := ixS7 (l := (recvN (recvN s n) n).sl) (p := s.hd) (by omega) (by rw [hp2, r6]; exact hp) (by omega)
                      rw [r6, hp2] at this
                      rw [r2]; exact this
                    have := rd_yes (b := recvN (recvN s n) n) (x := gs s.sl (plc s.sl (gth (recvN s n).th n).re)) (y := gs (recvN (recvN s n) n).sl (plc s.sl s.hd)) hF hC hn hS hla hs0 hl ht (by simp [h3']) hu (by simp [h4']) hSb (by simp; omega) (by simp [r5]) (by simp [r6]) ⟨by omega, by omega⟩ hx (by simp [r2]) hv (by simp [r3]) (by simp [r2, hst]) (by simp [q1]) hy (by rw [r2]; constructor <;> omega)
                    rwa [show ((gs (recvN (recvN s n) n).sl (plc s.sl s.hd)).st == (gth (recvN s n).th n).re + (s.sl.length : Int)) = true by rw [q2, r2]; simp] at this
                  · exact args (by rw [r2]; simpa using hst)
                · exact rd_p4 hF hC hn hS hla hs0 hl ht (by simp [h3']) hu (by simp [h4'])
              · exact rd_p3 hF hC hn hS hla hs0 hl ht (by simp [h3'])
            · exact rd_lg hF hC hn hS hla hs0 hl
theorem recvReads_walk (s : St) (sz : Pz) (hs : s.ok) (id : Int) (hid : In64 id) (w : World) (hss : StAt w s sz) :
    Calls Tryz.prog 8 #[.agg (s.cells sz).toArray, .int .i64 id] w fun e w' => e = .returned (.bool true) ∧ Kept w w' := by
  refine law_of (ac_recvReads (s := s) (i := id) hs) (cells_at.2 ?_)
  exact ⟨_, _, rfl, st_free hss, _, _, rfl, rp_int.2 rfl, rfl⟩
set_option maxRecDepth 100000 in
theorem recvReads_lifted (os : Os) (started : os.Started) (H : Type) (enc : TypeId × Value → H) :
    ReturnsInHanded {} Tryz.checked os 8 .any (Rows.recvReadsSpec.pre6 enc Tryz.prog Tryz.f8 Rows.recvReadsRow.domain false) (Rows.recvReadsSpec.post enc Tryz.prog Tryz.f8 false true false false) := by
  refine returnsInHanded_of_change (C := Tryz.checked) own started (by kernel_rfl) Tryz.func8
    (ChangeSpec.witness6 (enc := enc) (C := Tryz.checked) false ⟨#[], #[.agg St.zero.toArray, .int .i64 0], []⟩ 8 (by kernel_rfl) (by kernel_rfl) (by kernel_rfl) (by kernel_rfl)) ?_
  intro W base args ds gs before hval0 hW hcnd _
  have hval : ∀ (j : Nat) t v, Tryz.f8.params[j]? = some t → args[j]? = some v → Value.okWide Tryz.prog W .any base t v := hval0
  have hW' := hW
  obtain ⟨p, q, hA0, hV, rfl, hfz, hnd⟩ := hW
  have hA : DataW.TrodAll enc Tryz.prog W 0 (fun _ => true) true Tryz.f8.params.toList args.toList ds p := hA0
  rw [Tryz.params8] at hA hval
  obtain ⟨v0, vs0, d0, ds0, p0, q0, hargs, rfl, rfl, h0, r0⟩ := trodAll_cons hA
  obtain ⟨v1, vs1, d1, ds1, p1, q1, rfl, rfl, rfl, h1, r1⟩ := trodAll_cons r0
  obtain ⟨rfl, rfl, rfl⟩ := trodAll_nil r1
  obtain rfl : args = #[v0, v1] := by cases args; simp_all
  obtain ⟨rfl, rfl⟩ := trodVars_none hV
  obtain ⟨scs, rfl, srd⟩ := open_struct (g := 9) (l := St.shape) Tryz.underlying33 (by kernel_rfl) (hval 0 33 v0 rfl rfl) h0
  obtain ⟨s, sz, rfl, ssl, sok⟩ := St.of_read srd
  obtain ⟨id, rfl, rfl, rfl, wf1⟩ := open_int Tryz.underlying3 (hval 1 3 v1 rfl rfl) h1
  clear hA0 hval0
  refine (recvReads_walk s sz sok id (in64_of_wf wf1) W ssl).mono fun e W' ⟨he, hg⟩ => ?_
  subst he
  exact ⟨_, rfl, law_post laid hW' rfl (by kernel_rfl) rfl Tryz.underlying4 rfl hg⟩

/-- The statement, whole. -/
theorem recvReads_holds : Rows.RecvReadsSaid :=
  OpenClaim.holds_of_wide 8 Tryz.f8 rfl rfl rfl rfl rfl rfl rfl ⟨rfl, rfl, rfl, rfl, rfl⟩ rfl rfl rfl rfl rfl (by kernel_rfl) Tryz.func8 (by kernel_rfl)
    (of_decide_eq_true (by kernel_rfl)) (by unfold Func.isWrapper; rw [if_neg (of_decide_eq_false (by kernel_rfl))]; exact ⟨rfl, rfl⟩)
    (fun os started H enc _ => recvReads_lifted os started H enc)
end Go.Proofs.YtjbcfjfnobklkaaGreat
