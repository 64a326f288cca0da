/- FnExactUsedLeaves returns true at every list of placements, and leaves them as they were. Condition: none. -/
import Derived.Test.YtmfchcaidfloaaaRows
import Derived.Test.YtmfchcaidfloaaaUsd3
import Derived.Test.YtmfchcaidfloaaaFmPm
import Derived.Test.YtmfchcaidfloaaaFlIn
import Derived.Test.YtmfchcaidfloaaaK8
import Derived.Test.YtmfchcaidfloaaaSeq3
import Derived.Test.YtmfchcaidfloaaaK5
import Derived.Test.YtmfchcaidfloaaaPost
import Derived.Test.YtmfchcaidfloaaaJoin
import Derived.WalkKit
import Derived.ProofKit
import Derived.OpenShut
import Derived.ChangeMaps5
namespace Go.Proofs.Ytmfchcaidfloaaa.fnExactUsedLeaves
open Go.ChangeShapes Go.WideShapes Go.ChangeAt Go.RowKit Go.ChangeMaps
set_option linter.unusedVariables false

theorem own : ownKnob Try.prog.godebug = none := by kernel_rfl

set_option maxRecDepth 100000 in
set_option maxHeartbeats 8000000 in
theorem walk_in (ao0 : Option Addr) (n0 c0 : Nat) (zs0 : List Pm) (w : World) (hsum : (PmSz zs0) ≤ 1048576) (hm0 : n0 ≤ 9223372036854775807) (hv0 : PmL w ao0 n0 zs0) :
    Calls Try.prog 5 #[.slice ao0 n0 c0] w fun e w' => e = .returned (.bool true) ∧ Below w.heap.size w w' := by
  have HS0 := Lib.hid (show (PmSz zs0) ≤ 1048576 by omega)
  have HV0 := Lib.hid hv0
  have HM0 := Lib.hid hm0
  have HZ0 := Lib.hid hv0.1
  clear hv0 hm0
  go_enter Try.func5, Try.ntmps5
  have HW := Lib.hid (show Below w.heap.size w w from Below.refl _ _)
  have HLEN : ((usR zs0)).1.length ≤ 1000 := usR_len zs0
  have HL0 := Lib.hid (lft_ok (l := (1048576 : Int)) (n := (PmSz zs0)) (by omega))
  have hd0 : decide ((1048576 : Int) - ((PmSz zs0) : Int) < 0) = false := by simp; omega
  go_wp2_with fail
  refine (szPms_any ao0 n0 c0 zs0 ((1048576 : Int)) _ (by omega) (by omega) HM0.out (HV0.out.below HW.out)).mono ?_
  rintro e w1 ⟨rfl, g1⟩
  replace HW := Lib.hid (bseq HW.out g1)
  clear g1
  rw [HL0.out]
  go_wp2_with fail
  refine (toPms_own ao0 n0 c0 zs0 _ (by have := HS0.out; have := HZ0.out; unfold PmSz at *; omega) (HV0.out.below HW.out)).mono ?_
  rintro e w2 ⟨b2, rfl, hg2, hr2, g2⟩
  replace HW := Lib.hid (bseq HW.out g2)
  clear g2
  have O2 := Lib.hid (Pm_row HZ0.out hr2)
  have DX2 := Lib.hid (PmX.of HZ0.out hg2 hr2)
  clear hg2 hr2
  go_wp2_with fail
  refine (us_spec _ n0 _ zs0 _ (by have := HS0.out; have := HZ0.out; unfold PmSz at *; omega) O2.out).mono ?_
  rintro e w3 ⟨v3, rfl, o3, g3⟩
  replace O2 := Lib.hid (O2.out.below g3)
  replace HW := Lib.hid (bseq HW.out g3)
  clear g3
  obtain ⟨ao_3, cp_3, rfl, p3⟩ := own_sliceI o3
  clear p3
  have O3 := Lib.hid o3
  clear o3
  clear O2
  have HLO0 := Lib.hid HW.out.size
  have LT0_O3 := Lib.hid (fun k hk => (World.ownsRow.lt O3.out k hk).2)
  go_wp2_with fail
  refine (toPms_own ao0 n0 c0 zs0 _ (by have := HS0.out; have := HZ0.out; unfold PmSz at *; omega) (HV0.out.below HW.out)).mono ?_
  rintro e w4 ⟨b4, rfl, hg4, hr4, g4⟩
  replace O3 := Lib.hid (own_below O3.out g4)
  replace HW := Lib.hid (bseq HW.out g4)
  clear g4
  have O4 := Lib.hid (Pm_row HZ0.out hr4)
  have DX4 := Lib.hid (PmX.of HZ0.out hg4 hr4)
  clear hg4 hr4
  have HN := Lib.hid (show w.heap.size + 0 ≤ w4.heap.size by exact HW.out.size)
  have NEo := Lib.hid (fun (u : Value) (b2 m2 e2 s2 : Nat) (ys : List Value) (w2 : World) (hb : w4.heap.size ≤ b2) (h2 : w2.ownsRow b2 e2 s2 u m2 ys) => ne_block O3.out hb h2)
  go_wp2_with fail
  refine (us_impl _ n0 _ zs0 _ (by have := HS0.out; have := HZ0.out; unfold PmSz at *; omega) O4.out).mono ?_
  rintro e w5 ⟨v5, rfl, o5, g5⟩
  replace O3 := Lib.hid (own_below O3.out g5)
  replace O4 := Lib.hid (O4.out.below g5)
  replace DX4 := Lib.hid (DX4.out.below g5)
  replace HW := Lib.hid (bseq HW.out g5)
  clear g5
  obtain ⟨ao_5, cp_5, rfl, p5⟩ := own_sliceI o5
  clear p5
  have O5 := Lib.hid o5
  clear o5
  have NE := Lib.hid (NEo.out _ _ _ _ _ _ _ (by simp) O5.out)
  clear NEo
  go_wp2_with fail
  refine (eqI_same _ _ ((usR zs0)).1.length _ _ ((usR zs0)).1 _ (by omega) (own_pvI rfl O5.out) (own_pvI rfl O3.out)).mono ?_
  rintro e w6 ⟨rfl, g6⟩
  replace O3 := Lib.hid (own_below O3.out g6)
  replace O4 := Lib.hid (O4.out.below g6)
  replace DX4 := Lib.hid (DX4.out.below g6)
  replace O5 := Lib.hid (own_below O5.out g6)
  replace HW := Lib.hid (bseq HW.out g6)
  clear g6
  go_wp2_with fail
  refine (toPms_own ao0 n0 c0 zs0 _ (by have := HS0.out; have := HZ0.out; unfold PmSz at *; omega) (HV0.out.below HW.out)).mono ?_
  rintro e w7 ⟨b7, rfl, hg7, hr7, g7⟩
  replace O3 := Lib.hid (own_below O3.out g7)
  replace O4 := Lib.hid (O4.out.below g7)
  replace DX4 := Lib.hid (DX4.out.below g7)
  replace O5 := Lib.hid (own_below O5.out g7)
  replace HW := Lib.hid (bseq HW.out g7)
  clear g7
  have O7 := Lib.hid (Pm_row HZ0.out hr7)
  have DX7 := Lib.hid (PmX.of HZ0.out hg7 hr7)
  clear hg7 hr7
  go_wp2_with fail
  refine (eqPms_same _ _ n0 _ _ zs0 _ (by have := HS0.out; have := HZ0.out; unfold PmSz at *; omega) O4.out O7.out).mono ?_
  rintro e w8 ⟨rfl, g8⟩
  replace O3 := Lib.hid (own_below O3.out g8)
  replace O4 := Lib.hid (O4.out.below g8)
  replace DX4 := Lib.hid (DX4.out.below g8)
  replace O5 := Lib.hid (own_below O5.out g8)
  replace O7 := Lib.hid (O7.out.below g8)
  replace HW := Lib.hid (bseq HW.out g8)
  clear g8
  clear O7
  go_wp2_with fail
  refine (markPms_any _ _ _ n0 1 zs0 _ HZ0.out (by omega) (by omega) (by have := HS0.out; have := HZ0.out; unfold PmSz at *; omega) DX4.out).mono ?_
  rintro e w9 ⟨k9, rfl, hk9, g9⟩
  replace HW := Lib.hid (g9.below HW.out HLO0.out)
  replace O3 := Lib.hid (g9.own O3.out (fun k hk => by have := LT0_O3.out k hk; omega))
  replace O5 := Lib.hid (g9.own O5.out (fun k hk => by have := (World.ownsRow.lt O5.out k hk).1; (try simp at this); omega))
  clear g9 DX4 O4
  have hkk0 : decide ((k9 : Int) < 0) = false := by simp
  go_wp2_with fail
  refine (eqI_same _ _ ((usR zs0)).1.length _ _ ((usR zs0)).1 _ (by omega) (own_pvI rfl O5.out) (own_pvI rfl O3.out)).mono ?_
  rintro e w10 ⟨rfl, g10⟩
  replace O3 := Lib.hid (own_below O3.out g10)
  replace O5 := Lib.hid (own_below O5.out g10)
  replace HW := Lib.hid (bseq HW.out g10)
  clear g10
  go_wp2_with fail
  refine (markI_any _ ((usR zs0)).1.length 1 _ _ _ (by omega) (by omega) (by omega) O5.out).mono ?_
  rintro e w11 ⟨rfl, g11, o11⟩
  have gb := own_grown (B := w.heap.size + 0) O5.out g11 (by have := HN.out; simp; omega) (by have := HW.out.size; omega)
  replace O3 := Lib.hid (O3.out.kept g11 (ne_symm NE.out))
  replace HW := Lib.hid (HW.out.trans (gb.mono (by omega)))
  replace O5 := Lib.hid o11
  clear gb g11 o11
  have hk1 : decide (((1 : Int) + ((((usR zs0)).1.length : Nat) : Int)) < 0) = false := by simp; omega
  go_wp2_with fail
  refine (heldI_any _ ((usR zs0)).1.length 1 _ _ (by omega) (by omega) (by omega) O5.out).mono ?_
  rintro e wh ⟨rfl, hh⟩
  subst hh
  go_wp2_with fail
  refine (toPms_own ao0 n0 c0 zs0 _ (by have := HS0.out; have := HZ0.out; unfold PmSz at *; omega) (HV0.out.below HW.out)).mono ?_
  rintro e w12 ⟨b12, rfl, hg12, hr12, g12⟩
  replace O3 := Lib.hid (own_below O3.out g12)
  replace O5 := Lib.hid (own_below O5.out g12)
  replace HW := Lib.hid (bseq HW.out g12)
  clear g12
  have O12 := Lib.hid (Pm_row HZ0.out hr12)
  have DX12 := Lib.hid (PmX.of HZ0.out hg12 hr12)
  clear hg12 hr12
  go_wp2_with fail
  refine (us_impl _ n0 _ zs0 _ (by have := HS0.out; have := HZ0.out; unfold PmSz at *; omega) O12.out).mono ?_
  rintro e w13 ⟨v13, rfl, o13, g13⟩
  replace O3 := Lib.hid (own_below O3.out g13)
  replace O5 := Lib.hid (own_below O5.out g13)
  replace O12 := Lib.hid (O12.out.below g13)
  replace HW := Lib.hid (bseq HW.out g13)
  clear g13
  obtain ⟨ao_13, cp_13, rfl, p13⟩ := own_sliceI o13
  clear p13
  have O13 := Lib.hid o13
  clear o13
  clear O12
  go_wp2_with fail
  refine (eqI_same _ _ ((usR zs0)).1.length _ _ ((usR zs0)).1 _ (by omega) (own_pvI rfl O13.out) (own_pvI rfl O3.out)).mono ?_
  rintro e w14 ⟨rfl, g14⟩
  replace O3 := Lib.hid (own_below O3.out g14)
  replace O5 := Lib.hid (own_below O5.out g14)
  replace O13 := Lib.hid (own_below O13.out g14)
  replace HW := Lib.hid (bseq HW.out g14)
  clear g14
  go_wp2_with fail
  refine (heldI_any _ ((usR zs0)).1.length 1 _ _ (by omega) (by omega) (by omega) O5.out).mono ?_
  rintro e wh ⟨rfl, hh⟩
  subst hh
  go_wp2
  go_ret
  exact ⟨rfl, HW.out⟩
set_option maxRecDepth 100000 in
set_option maxHeartbeats 4000000 in
theorem walk (ao0 : Option Addr) (n0 c0 : Nat) (zs0 : List Pm) (w : World) (hm0 : n0 ≤ 9223372036854775807) (hv0 : PmL w ao0 n0 zs0) :
    Calls Try.prog 5 #[.slice ao0 n0 c0] w fun e w' => e = .returned (.bool true) ∧ Below w.heap.size w w' := by
  by_cases hz0 : (PmSz zs0) ≤ 1048576
  rotate_left
  · have HV0 := Lib.hid hv0
    have HM0 := Lib.hid hm0
    have HZ0 := Lib.hid hv0.1
    clear hv0 hm0
    go_enter Try.func5, Try.ntmps5
    have HW := Lib.hid (show Below w.heap.size w w from Below.refl _ _)
    have HL0 := Lib.hid (lft_no (l := (1048576 : Int)) (n := (PmSz zs0)) (by omega))
    go_wp2_with fail
    refine (szPms_any ao0 n0 c0 zs0 ((1048576 : Int)) _ (by omega) (by omega) HM0.out (HV0.out.below HW.out)).mono ?_
    rintro e w1 ⟨rfl, g1⟩
    replace HW := Lib.hid (bseq HW.out g1)
    clear g1
    rw [HL0.out]
    go_wp2
    go_ret
    exact ⟨rfl, HW.out⟩
  exact walk_in ao0 n0 c0 zs0 w (by omega) hm0 hv0

set_option maxRecDepth 100000 in
theorem lifted (os : Os) (started : os.Started) (H : Type) (enc : TypeId × Value → H) :
    ReturnsInHanded {} Try.checked os 5 .any (Rows.fnExactUsedLeavesSpec.pre6 enc Try.prog Try.f5 Rows.fnExactUsedLeavesRow.domain false) (Rows.fnExactUsedLeavesSpec.post enc Try.prog Try.f5 false true false false) := by
  refine returnsInHanded_of_change (C := Try.checked) own started (by kernel_rfl) Try.func5
    (ChangeSpec.witness6 (enc := enc) (C := Try.checked) false ⟨#[], #[.slice none 0 0], []⟩ 8 (by kernel_rfl) (by kernel_rfl) (by kernel_rfl) (by kernel_rfl)) ?_
  intro W base args ds gs before hval0 hW hcnd _
  have hval : ∀ (j : Nat) t v, Try.f5.params[j]? = some t → args[j]? = some v → Value.okWide Try.prog W .any base t v := hval0
  have hW' := hW
  obtain ⟨p, q, hA0, hV, rfl, hfz, hnd⟩ := hW
  have hA : DataW.TrodAll enc Try.prog W 0 (fun _ => true) true Try.f5.params.toList args.toList ds p := hA0
  rw [Try.params5] at hA hval
  obtain ⟨v0, vs0, d0, ds0, p0, q0, hargs, rfl, rfl, h0, r0⟩ := trodAll_cons hA
  obtain ⟨rfl, rfl, rfl⟩ := trodAll_nil r0
  obtain rfl : args = #[v0] := by cases args; simp_all
  obtain ⟨rfl, rfl⟩ := trodVars_none hV
  clear hA0 hval0
  have l0 : ∀ x ∈ p0, x.block < W.heap.size := fun x hx => hW'.lt x (by simp [hx])
  have e0 := hval 0 28 v0 rfl rfl
  obtain ⟨a0, n0, k0, z0, e0v, m0, lv0⟩ := open_Pms e0 h0 l0
  have hc := walk a0 n0 k0 z0 W m0 lv0
  simp only [← e0v] at hc
  refine hc.mono fun e W' ⟨he, hg⟩ => ?_
  subst he
  exact ⟨_, rfl, post_below (pa := (p0 ++ [])) (pv := []) hW' (fun _ _ _ => (trodAll_cons_mk (shut_bool Try.underlying4 _) trodAll_mk0)) (fun sp hsp => (trodAll_cons_mk (trod_again (by decide) h0 l0 hg sp (fun x hx => hsp x (by simp [hx]))) trodAll_mk0)) (fun _ _ => rfl) (by simp)
    hg (ok_one (by kernel_rfl) rfl (okWide_bool_mk Try.underlying4 _))⟩

set_option maxHeartbeats 8000000 in
theorem joined : joinedFacts Try.pinned.checked.prog 5 Try.f5 Rows.fnExactUsedLeavesSpec Rows.fnExactUsedLeavesRow = true := by
  unfold joinedFacts
  repeat' (with_reducible refine andI ?_ ?_)
  rotate_left 1
  · exact jLaid
  · exact jRowed
  rotate_left 21
  · exact jHeard
  · exact jEnter
  · exact jLifts
  · exact jMake
  all_goals as_aux_lemma => kernel_rfl

theorem over : Rows.fnExactUsedLeavesRow.holds Try.pinned (OpenSpec.ofChange Rows.fnExactUsedLeavesSpec) :=
  OpenClaim.holds_of_wide 5 Try.f5 rfl rfl rfl rfl rfl rfl rfl ⟨rfl, rfl, rfl, rfl, rfl⟩ rfl rfl rfl rfl rfl (by kernel_rfl) Try.func5 joined
    (of_decide_eq_true (by kernel_rfl)) (by unfold Func.isWrapper; first | (rw [if_pos (by decide +kernel)]; kernel_rfl) | (rw [if_neg (by decide +kernel)]; exact ⟨rfl, rfl⟩))
    (fun os started H enc _ => lifted os started H enc)

theorem proved : Rows.FnExactUsedLeavesSaid :=
  over
#print axioms proved
end Go.Proofs.Ytmfchcaidfloaaa.fnExactUsedLeaves
