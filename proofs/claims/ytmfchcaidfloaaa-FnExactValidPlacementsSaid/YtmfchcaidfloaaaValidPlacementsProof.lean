/- FnExactValidPlacements returns true at every list of placements, and leaves them as they were. Condition: none. -/
import Derived.Test.YtmfchcaidfloaaaRows
import Derived.Test.YtmfchcaidfloaaaNst2
import Derived.Test.YtmfchcaidfloaaaFlIn
import Derived.Test.YtmfchcaidfloaaaSeq3
import Derived.Test.YtmfchcaidfloaaaK5
import Derived.Test.YtmfchcaidfloaaaPost
import Derived.Test.YtmfchcaidfloaaaJoin
import Derived.WalkKit
import Derived.ProofKit
import Derived.OpenShut
import Derived.ChangeMaps5
namespace Go.Proofs.Ytmfchcaidfloaaa.fnExactValidPlacements
open Go.ChangeShapes Go.WideShapes Go.ChangeAt Go.RowKit Go.ChangeMaps
set_option linter.unusedVariables false

theorem own : ownKnob Try.prog.godebug = none := by kernel_rfl

set_option maxRecDepth 100000 in
set_option maxHeartbeats 8000000 in
theorem walk_in (ao0 : Option Addr) (n0 c0 : Nat) (zs0 : List Pm) (w : World) (hsum : (PmSz zs0) ≤ 1048576) (hm0 : n0 ≤ 9223372036854775807) (hv0 : PmL w ao0 n0 zs0) :
    Calls Try.prog 4 #[.slice ao0 n0 c0] w fun e w' => e = .returned (.bool true) ∧ Below w.heap.size w w' := by
  have HS0 := Lib.hid (show (PmSz zs0) ≤ 1048576 by omega)
  have HV0 := Lib.hid hv0
  have HM0 := Lib.hid hm0
  have HZ0 := Lib.hid hv0.1
  clear hv0 hm0
  go_enter Try.func4, Try.ntmps4
  have HW := Lib.hid (show Below w.heap.size w w from Below.refl _ _)
  have hne : (pmsB zs0 != pmsB zs0) = false := by simp
  have HL0 := Lib.hid (lft_ok (l := (1048576 : Int)) (n := (PmSz zs0)) (by omega))
  have hd0 : decide ((1048576 : Int) - ((PmSz zs0) : Int) < 0) = false := by simp; omega
  go_wp2_with fail
  refine (szPms_any ao0 n0 c0 zs0 ((1048576 : Int)) _ (by omega) (by omega) HM0.out (HV0.out.below HW.out)).mono ?_
  rintro e w1 ⟨rfl, g1⟩
  replace HW := Lib.hid (bseq HW.out g1)
  clear g1
  rw [HL0.out]
  go_wp2_with fail
  refine (toPms_own ao0 n0 c0 zs0 _ (by have := HS0.out; have := HZ0.out; unfold PmSz at *; omega) (HV0.out.below HW.out)).mono ?_
  rintro e w2 ⟨b2, rfl, hg2, hr2, g2⟩
  replace HW := Lib.hid (bseq HW.out g2)
  clear g2
  have O2 := Lib.hid (Pm_row HZ0.out hr2)
  clear hg2 hr2
  go_wp2_with fail
  refine (validPms_spec _ _ _ zs0 _ (by have := HS0.out; have := HZ0.out; unfold PmSz at *; omega) O2.out).mono ?_
  rintro e w3 ⟨rfl, g3⟩
  replace O2 := Lib.hid (O2.out.below g3)
  replace HW := Lib.hid (bseq HW.out g3)
  clear g3
  clear O2
  have HLO0 := Lib.hid HW.out.size
  go_wp2_with fail
  refine (toPms_own ao0 n0 c0 zs0 _ (by have := HS0.out; have := HZ0.out; unfold PmSz at *; omega) (HV0.out.below HW.out)).mono ?_
  rintro e w4 ⟨b4, rfl, hg4, hr4, g4⟩
  replace HW := Lib.hid (bseq HW.out g4)
  clear g4
  have O4 := Lib.hid (Pm_row HZ0.out hr4)
  clear hg4 hr4
  go_wp2_with fail
  refine (pms_impl _ _ _ zs0 _ (by have := HS0.out; have := HZ0.out; unfold PmSz at *; omega) O4.out).mono ?_
  rintro e w5 ⟨rfl, g5⟩
  replace O4 := Lib.hid (O4.out.below g5)
  replace HW := Lib.hid (bseq HW.out g5)
  clear g5
  go_wp2_with fail
  refine (toPms_own ao0 n0 c0 zs0 _ (by have := HS0.out; have := HZ0.out; unfold PmSz at *; omega) (HV0.out.below HW.out)).mono ?_
  rintro e w6 ⟨b6, rfl, hg6, hr6, g6⟩
  replace O4 := Lib.hid (O4.out.below g6)
  replace HW := Lib.hid (bseq HW.out g6)
  clear g6
  have O6 := Lib.hid (Pm_row HZ0.out hr6)
  clear hg6 hr6
  go_wp2_with fail
  refine (eqPms_same _ _ n0 _ _ zs0 _ (by have := HS0.out; have := HZ0.out; unfold PmSz at *; omega) O4.out O6.out).mono ?_
  rintro e w7 ⟨rfl, g7⟩
  replace O4 := Lib.hid (O4.out.below g7)
  replace O6 := Lib.hid (O6.out.below g7)
  replace HW := Lib.hid (bseq HW.out g7)
  clear g7
  clear O6
  clear O4
  go_wp2
  go_ret
  exact ⟨rfl, HW.out⟩
set_option maxRecDepth 100000 in
set_option maxHeartbeats 4000000 in
theorem walk (ao0 : Option Addr) (n0 c0 : Nat) (zs0 : List Pm) (w : World) (hm0 : n0 ≤ 9223372036854775807) (hv0 : PmL w ao0 n0 zs0) :
    Calls Try.prog 4 #[.slice ao0 n0 c0] w fun e w' => e = .returned (.bool true) ∧ Below w.heap.size w w' := by
  by_cases hz0 : (PmSz zs0) ≤ 1048576
  rotate_left
  · have HV0 := Lib.hid hv0
    have HM0 := Lib.hid hm0
    have HZ0 := Lib.hid hv0.1
    clear hv0 hm0
    go_enter Try.func4, Try.ntmps4
    have HW := Lib.hid (show Below w.heap.size w w from Below.refl _ _)
    have HL0 := Lib.hid (lft_no (l := (1048576 : Int)) (n := (PmSz zs0)) (by omega))
    go_wp2_with fail
    refine (szPms_any ao0 n0 c0 zs0 ((1048576 : Int)) _ (by omega) (by omega) HM0.out (HV0.out.below HW.out)).mono ?_
    rintro e w1 ⟨rfl, g1⟩
    replace HW := Lib.hid (bseq HW.out g1)
    clear g1
    rw [HL0.out]
    go_wp2
    go_ret
    exact ⟨rfl, HW.out⟩
  exact walk_in ao0 n0 c0 zs0 w (by omega) hm0 hv0

set_option maxRecDepth 100000 in
theorem lifted (os : Os) (started : os.Started) (H : Type) (enc : TypeId × Value → H) :
    ReturnsInHanded {} Try.checked os 4 .any (Rows.fnExactValidPlacementsSpec.pre6 enc Try.prog Try.f4 Rows.fnExactValidPlacementsRow.domain false) (Rows.fnExactValidPlacementsSpec.post enc Try.prog Try.f4 false true false false) := by
  refine returnsInHanded_of_change (C := Try.checked) own started (by kernel_rfl) Try.func4
    (ChangeSpec.witness6 (enc := enc) (C := Try.checked) false ⟨#[], #[.slice none 0 0], []⟩ 8 (by kernel_rfl) (by kernel_rfl) (by kernel_rfl) (by kernel_rfl)) ?_
  intro W base args ds gs before hval0 hW hcnd _
  have hval : ∀ (j : Nat) t v, Try.f4.params[j]? = some t → args[j]? = some v → Value.okWide Try.prog W .any base t v := hval0
  have hW' := hW
  obtain ⟨p, q, hA0, hV, rfl, hfz, hnd⟩ := hW
  have hA : DataW.TrodAll enc Try.prog W 0 (fun _ => true) true Try.f4.params.toList args.toList ds p := hA0
  rw [Try.params4] at hA hval
  obtain ⟨v0, vs0, d0, ds0, p0, q0, hargs, rfl, rfl, h0, r0⟩ := trodAll_cons hA
  obtain ⟨rfl, rfl, rfl⟩ := trodAll_nil r0
  obtain rfl : args = #[v0] := by cases args; simp_all
  obtain ⟨rfl, rfl⟩ := trodVars_none hV
  clear hA0 hval0
  have l0 : ∀ x ∈ p0, x.block < W.heap.size := fun x hx => hW'.lt x (by simp [hx])
  have e0 := hval 0 28 v0 rfl rfl
  obtain ⟨a0, n0, k0, z0, e0v, m0, lv0⟩ := open_Pms e0 h0 l0
  have hc := walk a0 n0 k0 z0 W m0 lv0
  simp only [← e0v] at hc
  refine hc.mono fun e W' ⟨he, hg⟩ => ?_
  subst he
  exact ⟨_, rfl, post_below (pa := (p0 ++ [])) (pv := []) hW' (fun _ _ _ => (trodAll_cons_mk (shut_bool Try.underlying4 _) trodAll_mk0)) (fun sp hsp => (trodAll_cons_mk (trod_again (by decide) h0 l0 hg sp (fun x hx => hsp x (by simp [hx]))) trodAll_mk0)) (fun _ _ => rfl) (by simp)
    hg (ok_one (by kernel_rfl) rfl (okWide_bool_mk Try.underlying4 _))⟩

set_option maxHeartbeats 8000000 in
theorem joined : joinedFacts Try.pinned.checked.prog 4 Try.f4 Rows.fnExactValidPlacementsSpec Rows.fnExactValidPlacementsRow = true := by
  unfold joinedFacts
  repeat' (with_reducible refine andI ?_ ?_)
  rotate_left 1
  · exact jLaid
  · exact jRowed
  rotate_left 21
  · exact jHeard
  · exact jEnter
  · exact jLifts
  · exact jMake
  all_goals as_aux_lemma => kernel_rfl

theorem over : Rows.fnExactValidPlacementsRow.holds Try.pinned (OpenSpec.ofChange Rows.fnExactValidPlacementsSpec) :=
  OpenClaim.holds_of_wide 4 Try.f4 rfl rfl rfl rfl rfl rfl rfl ⟨rfl, rfl, rfl, rfl, rfl⟩ rfl rfl rfl rfl rfl (by kernel_rfl) Try.func4 joined
    (of_decide_eq_true (by kernel_rfl)) (by unfold Func.isWrapper; first | (rw [if_pos (by decide +kernel)]; kernel_rfl) | (rw [if_neg (by decide +kernel)]; exact ⟨rfl, rfl⟩))
    (fun os started H enc _ => lifted os started H enc)

theorem proved : Rows.FnExactValidPlacementsSaid :=
  over
#print axioms proved
end Go.Proofs.Ytmfchcaidfloaaa.fnExactValidPlacements
