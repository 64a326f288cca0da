/- FnExactSamePolygon returns true at all slices of points, and leaves them as they were. Condition: none. -/
import Derived.Test.YtcbbhpabiijpoaaRows
import Derived.Test.YtcbbhpabiijpoaaLawSz
import Derived.Test.YtcbbhpabiijpoaaPolyG3
import Derived.Test.YtcbbhpabiijpoaaPolyG4
import Derived.Test.YtcbbhpabiijpoaaAgain
import Derived.Test.YtcbbhpabiijpoaaPost
import Derived.WalkKit
import Derived.ProofKit
import Derived.OpenShut
import Derived.ChangeMaps5
namespace Go.Proofs.Ytcbbhpabiijpoaa.fnExactSamePolygon
open Go.ChangeShapes Go.WideShapes Go.ChangeAt Go.RowKit Go.ChangeMaps
set_option linter.unusedVariables false

theorem own : ownKnob Try.prog.godebug = none := by kernel_rfl

set_option maxRecDepth 100000 in
set_option maxHeartbeats 4000000 in
theorem walk_in (ao0 : Option Addr) (n0 c0 : Nat) (zs0 : List P2) (ao1 : Option Addr) (n1 c1 : Nat) (zs1 : List P2) (w : World) (hsum : n0 + n1 ≤ 1048576) (hv0 : LView w ao0 n0 zs0) (hv1 : LView w ao1 n1 zs1) :
    Calls Try.prog 5 #[.slice ao0 n0 c0, .slice ao1 n1 c1] w fun e w' => e = .returned (.bool true) ∧ Below w.heap.size w w' := by
  have HV0 := Lib.hid hv0
  have HV1 := Lib.hid hv1
  clear hv0 hv1
  go_enter Try.func5, Try.ntmps5
  go_wp2_with fail
  refine (szI_ok ao0 n0 c0 1048576 _ (by omega) (by omega) (by omega)).mono ?_
  rintro e ws0 ⟨rfl, rfl⟩
  have hd0 : decide (((1048576 : Int) - n0) < 0) = false := by simp; omega
  go_wp2_with fail
  refine (szI_ok ao1 n1 c1 (1048576 - n0) _ (by omega) (by omega) (by omega)).mono ?_
  rintro e ws1 ⟨rfl, rfl⟩
  have hd1 : decide (((1048576 : Int) - n0 - n1) < 0) = false := by simp; omega
  go_wp2_with fail
  refine (toPts_own ao0 n0 c0 zs0 _ (by omega) HV0.out).mono ?_
  rintro e w1 ⟨b1, rfl, o1, p1, g1⟩
  replace HV0 := Lib.hid (HV0.out.below g1)
  replace HV1 := Lib.hid (HV1.out.below g1)
  have HW := Lib.hid g1
  clear g1
  have O1 := Lib.hid o1
  have P1 := Lib.hid p1
  clear o1 p1
  go_wp2_with fail
  refine (toPts_own ao1 n1 c1 zs1 _ (by omega) HV1.out).mono ?_
  rintro e w2 ⟨b2, rfl, o2, p2, g2⟩
  replace HV0 := Lib.hid (HV0.out.below g2)
  replace HV1 := Lib.hid (HV1.out.below g2)
  replace P1 := Lib.hid (P1.out.below g2)
  replace O1 := Lib.hid (own_below O1.out g2)
  replace HW := Lib.hid (bseq HW.out g2)
  clear g2
  have O2 := Lib.hid o2
  have P2 := Lib.hid p2
  clear o2 p2
  go_wp2_with fail
  refine (same_pspec _ _ n0 n1 _ _ zs0 zs1 _ (by omega) (by omega) (Nat.le_refl _) P1.out P2.out).mono ?_
  rintro e w3 ⟨rfl, g3⟩
  replace HV0 := Lib.hid (HV0.out.below g3)
  replace HV1 := Lib.hid (HV1.out.below g3)
  replace P1 := Lib.hid (P1.out.below g3)
  replace P2 := Lib.hid (P2.out.below g3)
  replace O1 := Lib.hid (own_below O1.out g3)
  replace O2 := Lib.hid (own_below O2.out g3)
  replace HW := Lib.hid (bseq HW.out g3)
  clear g3
  go_wp2_with fail
  refine (toPts_own ao0 n0 c0 zs0 _ (by omega) HV0.out).mono ?_
  rintro e w4 ⟨b4, rfl, o4, p4, g4⟩
  replace HV0 := Lib.hid (HV0.out.below g4)
  replace HV1 := Lib.hid (HV1.out.below g4)
  replace HW := Lib.hid (bseq HW.out g4)
  clear g4
  have O4 := Lib.hid o4
  have P4 := Lib.hid p4
  clear o4 p4
  go_wp2_with fail
  refine (toPts_own ao1 n1 c1 zs1 _ (by omega) HV1.out).mono ?_
  rintro e w5 ⟨b5, rfl, o5, p5, g5⟩
  replace HV0 := Lib.hid (HV0.out.below g5)
  replace HV1 := Lib.hid (HV1.out.below g5)
  replace P4 := Lib.hid (P4.out.below g5)
  replace O4 := Lib.hid (own_below O4.out g5)
  replace HW := Lib.hid (bseq HW.out g5)
  clear g5
  have O5 := Lib.hid o5
  have P5 := Lib.hid p5
  clear o5 p5
  go_wp2_with fail
  refine (same_pimpl _ _ n0 n1 _ _ zs0 zs1 _ (by omega) (by omega) (Nat.le_refl _) P4.out P5.out).mono ?_
  rintro e w6 ⟨rfl, g6⟩
  replace HV0 := Lib.hid (HV0.out.below g6)
  replace HV1 := Lib.hid (HV1.out.below g6)
  replace P4 := Lib.hid (P4.out.below g6)
  replace P5 := Lib.hid (P5.out.below g6)
  replace HW := Lib.hid (bseq HW.out g6)
  clear g6
  go_wp2_with fail
  refine (toPts_own ao0 n0 c0 zs0 _ (by omega) HV0.out).mono ?_
  rintro e w7 ⟨b7, rfl, o7, p7, g7⟩
  replace HV0 := Lib.hid (HV0.out.below g7)
  replace HV1 := Lib.hid (HV1.out.below g7)
  replace P4 := Lib.hid (P4.out.below g7)
  replace P5 := Lib.hid (P5.out.below g7)
  replace HW := Lib.hid (bseq HW.out g7)
  clear g7
  have O7 := Lib.hid o7
  have P7 := Lib.hid p7
  clear o7 p7
  go_wp2_with fail
  refine (eqPts_same _ _ n0 _ _ zs0 _ (by omega) P4.out P7.out).mono ?_
  rintro e w8 ⟨rfl, g8⟩
  replace HV0 := Lib.hid (HV0.out.below g8)
  replace HV1 := Lib.hid (HV1.out.below g8)
  replace P4 := Lib.hid (P4.out.below g8)
  replace P5 := Lib.hid (P5.out.below g8)
  replace P7 := Lib.hid (P7.out.below g8)
  replace O7 := Lib.hid (own_below O7.out g8)
  replace HW := Lib.hid (bseq HW.out g8)
  clear g8
  go_wp2_with fail
  refine (toPts_own ao1 n1 c1 zs1 _ (by omega) HV1.out).mono ?_
  rintro e w9 ⟨b9, rfl, o9, p9, g9⟩
  replace HV0 := Lib.hid (HV0.out.below g9)
  replace HV1 := Lib.hid (HV1.out.below g9)
  replace P4 := Lib.hid (P4.out.below g9)
  replace P5 := Lib.hid (P5.out.below g9)
  replace HW := Lib.hid (bseq HW.out g9)
  clear g9
  have O9 := Lib.hid o9
  have P9 := Lib.hid p9
  clear o9 p9
  go_wp2_with fail
  refine (eqPts_same _ _ n1 _ _ zs1 _ (by omega) P5.out P9.out).mono ?_
  rintro e w10 ⟨rfl, g10⟩
  replace HV0 := Lib.hid (HV0.out.below g10)
  replace HV1 := Lib.hid (HV1.out.below g10)
  replace P4 := Lib.hid (P4.out.below g10)
  replace P5 := Lib.hid (P5.out.below g10)
  replace P9 := Lib.hid (P9.out.below g10)
  replace O9 := Lib.hid (own_below O9.out g10)
  replace HW := Lib.hid (bseq HW.out g10)
  clear g10
  go_wp2
  go_ret
  exact ⟨rfl, HW.out⟩
set_option maxRecDepth 100000 in
set_option maxHeartbeats 1000000 in
theorem walk (ao0 : Option Addr) (n0 c0 : Nat) (zs0 : List P2) (ao1 : Option Addr) (n1 c1 : Nat) (zs1 : List P2) (w : World) (hm0 : n0 ≤ 9223372036854775807) (hv0 : LView w ao0 n0 zs0) (hm1 : n1 ≤ 9223372036854775807) (hv1 : LView w ao1 n1 zs1) :
    Calls Try.prog 5 #[.slice ao0 n0 c0, .slice ao1 n1 c1] w fun e w' => e = .returned (.bool true) ∧ Below w.heap.size w w' := by
  by_cases h0 : n0 ≤ 1048576
  rotate_left
  · clear hv0 hv1
    go_enter Try.func5, Try.ntmps5
    go_wp2_with fail
    refine (szI_no ao0 n0 c0 1048576 _ (by omega) (by omega) (by omega) hm0).mono ?_
    rintro e wz ⟨rfl, rfl⟩
    go_wp2
    go_ret
    exact ⟨rfl, Below.refl _ _⟩
  by_cases h1 : n0 + n1 ≤ 1048576
  rotate_left
  · clear hv0 hv1
    go_enter Try.func5, Try.ntmps5
    go_wp2_with fail
    refine (szI_ok ao0 n0 c0 1048576 _ (by omega) (by omega) (by omega)).mono ?_
    rintro e ws0 ⟨rfl, rfl⟩
    have hd0 : decide (((1048576 : Int) - n0) < 0) = false := by simp; omega
    go_wp2_with fail
    refine (szI_no ao1 n1 c1 (1048576 - n0) _ (by omega) (by omega) (by omega) hm1).mono ?_
    rintro e wz ⟨rfl, rfl⟩
    go_wp2
    go_ret
    exact ⟨rfl, Below.refl _ _⟩
  exact walk_in ao0 n0 c0 zs0 ao1 n1 c1 zs1 w (by omega) hv0 hv1

set_option maxRecDepth 100000 in
theorem lifted (os : Os) (started : os.Started) (H : Type) (enc : TypeId × Value → H) :
    ReturnsInHanded {} Try.checked os 5 .any (Rows.fnExactSamePolygonSpec.pre6 enc Try.prog Try.f5 Rows.fnExactSamePolygonRow.domain false) (Rows.fnExactSamePolygonSpec.post enc Try.prog Try.f5 false true false false) := by
  refine returnsInHanded_of_change (C := Try.checked) own started (by kernel_rfl) Try.func5
    (ChangeSpec.witness6 (enc := enc) (C := Try.checked) false ⟨#[], #[.slice none 0 0, .slice none 0 0], []⟩ 8 (by kernel_rfl) (by kernel_rfl) (by kernel_rfl) (by kernel_rfl)) ?_
  intro W base args ds gs before hval0 hW hcnd _
  have hval : ∀ (j : Nat) t v, Try.f5.params[j]? = some t → args[j]? = some v → Value.okWide Try.prog W .any base t v := hval0
  have hW' := hW
  obtain ⟨p, q, hA0, hV, rfl, hfz, hnd⟩ := hW
  have hA : DataW.TrodAll enc Try.prog W 0 (fun _ => true) true Try.f5.params.toList args.toList ds p := hA0
  rw [Try.params5] at hA hval
  obtain ⟨v0, vs0, d0, ds0, p0, q0, hargs, rfl, rfl, h0, r0⟩ := trodAll_cons hA
  obtain ⟨v1, vs1, d1, ds1, p1, q1, rfl, rfl, rfl, h1, r1⟩ := trodAll_cons r0
  obtain ⟨rfl, rfl, rfl⟩ := trodAll_nil r1
  obtain rfl : args = #[v0, v1] := by cases args; simp_all
  obtain ⟨rfl, rfl⟩ := trodVars_none hV
  clear hA0 hval0
  have l0 : ∀ x ∈ p0, x.block < W.heap.size := fun x hx => hW'.lt x (by simp [hx])
  have l1 : ∀ x ∈ p1, x.block < W.heap.size := fun x hx => hW'.lt x (by simp [hx])
  have e0 := hval 0 47 v0 rfl rfl
  obtain ⟨a0, n0, k0, z0, e0v, m0, lv0⟩ := open_pts e0 h0 l0
  have e1 := hval 1 47 v1 rfl rfl
  obtain ⟨a1, n1, k1, z1, e1v, m1, lv1⟩ := open_pts e1 h1 l1
  have hc := walk a0 n0 k0 z0 a1 n1 k1 z1 W m0 lv0 m1 lv1
  simp only [← e0v, ← e1v] at hc
  refine hc.mono fun e W' ⟨he, hg⟩ => ?_
  subst he
  exact ⟨_, rfl, post_below (pa := (p0 ++ (p1 ++ []))) (pv := []) hW' (fun _ _ _ => (trodAll_cons_mk (shut_bool Try.underlying4 _) trodAll_mk0)) (fun sp hsp => (trodAll_cons_mk (trod_again (by decide) h0 l0 hg sp (fun x hx => hsp x (by simp [hx]))) (trodAll_cons_mk (trod_again (by decide) h1 l1 hg sp (fun x hx => hsp x (by simp [hx]))) trodAll_mk0))) (fun _ _ => rfl) (by simp)
    hg (ok_one (by kernel_rfl) rfl (okWide_bool_mk Try.underlying4 _))⟩

theorem over : Rows.fnExactSamePolygonRow.holds Try.pinned (OpenSpec.ofChange Rows.fnExactSamePolygonSpec) :=
  OpenClaim.holds_of_wide 5 Try.f5 rfl rfl rfl rfl rfl rfl rfl ⟨rfl, rfl, rfl, rfl, rfl⟩ rfl rfl rfl rfl rfl (by kernel_rfl) Try.func5 (by kernel_rfl)
    (of_decide_eq_true (by kernel_rfl)) (by unfold Func.isWrapper; first | (rw [if_pos (by decide +kernel)]; kernel_rfl) | (rw [if_neg (by decide +kernel)]; exact ⟨rfl, rfl⟩))
    (fun os started H enc _ => lifted os started H enc)

theorem proved : Rows.FnExactSamePolygonSaid :=
  over
#print axioms proved
end Go.Proofs.Ytcbbhpabiijpoaa.fnExactSamePolygon
