/- Validity of veneers: impl. -/
import Derived.Test.YtmfchcaidfloaaaDoorVen5
namespace Go.Proofs.YtmfchcaidfloaaaDoor
open Seq2 Go.ChangeShapes Go.WideShapes Go.ChangeAt Go.RowKit
set_option linter.unusedVariables false
set_option linter.unusedSimpArgs false

theorem near_in (x a : Int) : decide (awy x a ≤ 15) = inI a (x - 15) (x + 15) := by
  rw [Bool.eq_iff_iff, inI_iff, decide_eq_true_eq]
  unfold awy; split <;> omega
set_option maxRecDepth 100000 in
set_option maxHeartbeats 8000000 in
theorem valid_vimpl (s : ByteArray) (a b : Int) (w : World) (ht : TabAt w) : Calls Tryd.prog 40 #[.agg #[.string s, .int .i64 a, .int .i64 b]] w fun e w' => e = .returned (.bool (venB s a b)) ∧ Below w.heap.size w w' := by
  have HT := Lib.hid (ht.below (one_alloc (.cells #[.string s, .int .i64 a, .int .i64 b] 43)))
  have HV := Lib.hid (VC.box w s a b)
  have HA := Lib.hid (one_alloc (w := w) (.cells #[.string s, .int .i64 a, .int .i64 b] 43))
  have HB := Lib.hid (show venB s a b = (decide (ixN s < 10) && (inI a 0 100 && (inI a (spS (ixN s) - 15) (spS (ixN s) + 15) && inI b 0 179))) from rfl)
  obtain ⟨ob, hob⟩ : ∃ ob, spB s = ob := ⟨_, rfl⟩
  have HSB := Lib.hid hob
  have HB := Lib.hid (show venB s a b = (ob && (inI a 0 100 && (inI a (spS (ixN s) - 15) (spS (ixN s) + 15) && inI b 0 179))) by rw [← hob]; rfl)
  obtain ⟨k, hk⟩ : ∃ k, ixN s = k := ⟨_, rfl⟩
  have HK := Lib.hid hk
  rw [hk] at HB
  have HN := Lib.hid (near_in (spS k) a)
  clear ht hob hk
  cases ob with
  | false =>
    rw [Bool.false_and] at HB
    rw [HB.out]
    go_enter Tryd.func40, Tryd.ntmps40
    go_wp2_with fail
    refine (named_ven s _ HT.out).mono ?_
    rintro e w1 ⟨rfl, g1⟩
    obtain ⟨hq1, u0, u1, u2⟩ := HV.out.below g1
    have HG := Lib.hid (bseq HA.out g1)
    clear g1
    rw [HSB.out]
    unfold spV
    go_wp2
    go_ret
    exact ⟨rfl, HG.out.alloc HG.out.size _⟩
  | true =>
  rw [Bool.true_and] at HB
  rw [HB.out]
  cases hs : inI a 0 100 with
  | false =>
    rw [Bool.false_and]
    go_enter Tryd.func40, Tryd.ntmps40
    go_wp2_with fail
    refine (named_ven s _ HT.out).mono ?_
    rintro e w1 ⟨rfl, g1⟩
    obtain ⟨hq1, u0, u1, u2⟩ := HV.out.below g1
    have HG := Lib.hid (bseq HA.out g1)
    clear g1
    rw [HSB.out]
    unfold spV
    go_wp2_with fail
    refine (shade_ven _ _).mono ?_
    rintro e w2 ⟨rfl, rfl⟩
    rw [hs]
    go_wp2
    go_ret
    exact ⟨rfl, HG.out.alloc HG.out.size _⟩
  | true =>
  rw [Bool.true_and]
  have ⟨ha0, ha1⟩ := (inI_iff _ _ _).1 hs
  cases hs2 : inI a (spS k - 15) (spS k + 15) with
  | false =>
    rw [Bool.false_and]
    go_enter Tryd.func40, Tryd.ntmps40
    go_wp2_with fail
    refine (named_ven s _ HT.out).mono ?_
    rintro e w1 ⟨rfl, g1⟩
    obtain ⟨hq1, u0, u1, u2⟩ := HV.out.below g1
    have HG := Lib.hid (bseq HA.out g1)
    clear g1
    rw [HSB.out, HK.out]
    have eV : spV k = #[.string (spN k), .int .i64 (spS k), .int .i64 (spH k), .int .i64 (spW k)] := rfl
    rw [eV]
    go_wp2_with fail
    refine (shade_ven _ _).mono ?_
    rintro e w2 ⟨rfl, rfl⟩
    rw [hs]
    go_wp2_with fail
    rw [← eV]
    refine (away_ven k a _ ha0 ha1).mono ?_
    rintro e w3 ⟨rfl, g3⟩
    have HG3 := Lib.hid (bseq (HG.out.alloc HG.out.size _) g3)
    clear g3
    have hnear := HN.out
    rw [hs2] at hnear
    go_wp2
    go_ret
    exact ⟨rfl, HG3.out⟩
  | true =>
    rw [Bool.true_and]
    go_enter Tryd.func40, Tryd.ntmps40
    go_wp2_with fail
    refine (named_ven s _ HT.out).mono ?_
    rintro e w1 ⟨rfl, g1⟩
    obtain ⟨hq1, u0, u1, u2⟩ := HV.out.below g1
    have HG := Lib.hid (bseq HA.out g1)
    have HVV := Lib.hid (HV.out.below g1)
    clear g1
    rw [HSB.out, HK.out]
    have eV : spV k = #[.string (spN k), .int .i64 (spS k), .int .i64 (spH k), .int .i64 (spW k)] := rfl
    rw [eV]
    go_wp2_with fail
    refine (shade_ven _ _).mono ?_
    rintro e w2 ⟨rfl, rfl⟩
    rw [hs]
    go_wp2_with fail
    rw [← eV]
    refine (away_ven k a _ ha0 ha1).mono ?_
    rintro e w3 ⟨rfl, g3⟩
    have HG3 := Lib.hid (bseq (HG.out.alloc HG.out.size _) g3)
    have hv3 := (HVV.out.below (one_alloc _)).below g3
    clear hq1 u0 u1 u2
    obtain ⟨hq1, u0, u1, u2⟩ := hv3
    clear g3
    have hnear := HN.out
    rw [hs2] at hnear
    go_wp2_with fail
    refine (grain_ven _ _).mono ?_
    rintro e w2 ⟨rfl, rfl⟩
    go_wp2
    go_ret
    exact ⟨rfl, HG3.out⟩
end Go.Proofs.YtmfchcaidfloaaaDoor
