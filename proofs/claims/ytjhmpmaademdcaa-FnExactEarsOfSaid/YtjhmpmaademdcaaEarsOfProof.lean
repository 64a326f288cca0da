/- FnExactEarsOf returns true at every slice of points, and leaves them as they were. Condition: none. -/
import Derived.Test.YtjhmpmaademdcaaRows
import Derived.Test.YtjhmpmaademdcaaLawSz
import Derived.Test.YtjhmpmaademdcaaEar4
import Derived.Test.YtjhmpmaademdcaaAgain
import Derived.Test.YtjhmpmaademdcaaPost
import Derived.WalkKit
import Derived.ProofKit
import Derived.OpenShut
import Derived.ChangeMaps5
namespace Go.Proofs.Ytjhmpmaademdcaa.fnExactEarsOf
open Go.ChangeShapes Go.WideShapes Go.ChangeAt Go.RowKit Go.ChangeMaps
set_option linter.unusedVariables false

theorem own : ownKnob Try.prog.godebug = none := by kernel_rfl

set_option maxRecDepth 100000 in
set_option maxHeartbeats 4000000 in
theorem walk_in (ao0 : Option Addr) (n0 c0 : Nat) (zs0 : List P2) (w : World) (hsum : n0 ≤ 1048576) (hv0 : LView w ao0 n0 zs0) :
    Calls Try.prog 7 #[.slice ao0 n0 c0] w fun e w' => e = .returned (.bool true) ∧ Below w.heap.size w w' := by
  have HV0 := Lib.hid hv0
  clear hv0
  go_enter Try.func7, Try.ntmps7
  have HLEN : (earsR zs0).1.length ≤ 1000 := earsR_len zs0
  go_wp2_with fail
  refine (szI_ok ao0 n0 c0 1048576 _ (by omega) (by omega) (by omega)).mono ?_
  rintro e ws0 ⟨rfl, rfl⟩
  have hd0 : decide (((1048576 : Int) - n0) < 0) = false := by simp; omega
  go_wp2_with fail
  refine (toPts_own ao0 n0 c0 zs0 _ (by omega) (HV0.out)).mono ?_
  rintro e w1 ⟨b1, rfl, o1, p1, g1⟩
  have HW := Lib.hid g1
  clear g1
  have O1 := Lib.hid o1
  have P1 := Lib.hid p1
  clear o1 p1
  go_wp2_with fail
  refine (ears_spec (some ⟨b1, 0, none⟩) n0 n0 zs0 _ (by omega) (own_pv' O1.out)).mono ?_
  rintro e w2 ⟨v2, rfl, o2, g2⟩
  obtain ⟨ao_2, cp_2, rfl, p2⟩ := own_sliceI o2
  clear p2
  have NEO1_2 := Lib.hid (ne_block O1.out (Nat.le_refl _) o2)
  replace O1 := Lib.hid (own_below O1.out g2)
  replace HW := Lib.hid (bseq HW.out g2)
  clear g2
  have O2 := Lib.hid o2
  clear o2
  have HB3 := Lib.hid HW.out.size
  go_wp2_with fail
  refine (toPts_own ao0 n0 c0 zs0 _ (by omega) (HV0.out.below HW.out)).mono ?_
  rintro e w3 ⟨b3, rfl, o3, p3, g3⟩
  have NEO2_3 := Lib.hid (ne_block O2.out (Nat.le_refl _) o3)
  replace O2 := Lib.hid (own_below O2.out g3)
  replace HW := Lib.hid (bseq HW.out g3)
  clear g3
  have O3 := Lib.hid o3
  have P3 := Lib.hid p3
  clear o3 p3
  have HB4 := Lib.hid HW.out.size
  go_wp2_with fail
  refine (ears_impl (some ⟨b3, 0, none⟩) n0 n0 zs0 _ (by omega) (own_pv' O3.out)).mono ?_
  rintro e w4 ⟨v4, rfl, o4, g4⟩
  obtain ⟨ao_4, cp_4, rfl, p4⟩ := own_sliceI o4
  clear p4
  have NEO2_4 := Lib.hid (ne_block O2.out (Nat.le_refl _) o4)
  have NEO3_4 := Lib.hid (ne_block O3.out (Nat.le_refl _) o4)
  replace O2 := Lib.hid (own_below O2.out g4)
  replace O3 := Lib.hid (own_below O3.out g4)
  replace HW := Lib.hid (bseq HW.out g4)
  clear g4
  have O4 := Lib.hid o4
  clear o4
  go_wp2_with fail
  refine (eqI_same _ _ (earsR zs0).1.length _ _ (earsR zs0).1 _ (by omega) (own_pvI rfl O4.out) (own_pvI rfl O2.out)).mono ?_
  rintro e w5 ⟨rfl, g5⟩
  replace O2 := Lib.hid (own_below O2.out g5)
  replace O3 := Lib.hid (own_below O3.out g5)
  replace O4 := Lib.hid (own_below O4.out g5)
  replace HW := Lib.hid (bseq HW.out g5)
  clear g5
  go_wp2_with fail
  refine (toPts_own ao0 n0 c0 zs0 _ (by omega) (HV0.out.below HW.out)).mono ?_
  rintro e w6 ⟨b6, rfl, o6, p6, g6⟩
  have NEO2_6 := Lib.hid (ne_block O2.out (Nat.le_refl _) o6)
  have NEO3_6 := Lib.hid (ne_block O3.out (Nat.le_refl _) o6)
  have NEO4_6 := Lib.hid (ne_block O4.out (Nat.le_refl _) o6)
  replace O2 := Lib.hid (own_below O2.out g6)
  replace O3 := Lib.hid (own_below O3.out g6)
  replace O4 := Lib.hid (own_below O4.out g6)
  replace HW := Lib.hid (bseq HW.out g6)
  clear g6
  have O6 := Lib.hid o6
  have P6 := Lib.hid p6
  clear o6 p6
  go_wp2_with fail
  refine (eqPts_same _ _ n0 _ _ zs0 _ (by omega) (own_pv' O3.out) (own_pv' O6.out)).mono ?_
  rintro e w7 ⟨rfl, g7⟩
  replace O2 := Lib.hid (own_below O2.out g7)
  replace O3 := Lib.hid (own_below O3.out g7)
  replace O4 := Lib.hid (own_below O4.out g7)
  replace O6 := Lib.hid (own_below O6.out g7)
  replace HW := Lib.hid (bseq HW.out g7)
  clear g7
  go_wp2_with fail
  refine (markP_any _ n0 1 _ _ _ (by omega) (by omega) (by omega) O3.out).mono ?_
  rintro e w8 ⟨rfl, g8, o8⟩
  replace O2 := Lib.hid (O2.out.kept g8 (ne_symm NEO2_3.out))
  replace O4 := Lib.hid (O4.out.kept g8 NEO3_4.out)
  replace HW := Lib.hid (HW.out.trans (own_grown (O3.out.base_le HB3.out) g8 (Nat.le_refl _) HW.out.size))
  replace O3 := Lib.hid o8
  clear g8 o8
  have hk0 : decide (((1 : Int) + 2 * (n0 : Int)) < 0) = false := by simp; omega
  go_wp2_with fail
  refine (eqI_same _ _ (earsR zs0).1.length _ _ (earsR zs0).1 _ (by omega) (own_pvI rfl O4.out) (own_pvI rfl O2.out)).mono ?_
  rintro e w9 ⟨rfl, g9⟩
  replace O2 := Lib.hid (own_below O2.out g9)
  replace O4 := Lib.hid (own_below O4.out g9)
  replace HW := Lib.hid (bseq HW.out g9)
  clear g9
  go_wp2_with fail
  refine (markI_any _ (earsR zs0).1.length 1 _ _ _ (by omega) (by omega) (by omega) O4.out).mono ?_
  rintro e w10 ⟨rfl, g10, o10⟩
  replace O2 := Lib.hid (O2.out.kept g10 (ne_symm NEO2_4.out))
  replace HW := Lib.hid (HW.out.trans (own_grown (O4.out.base_le HB4.out) g10 (Nat.le_refl _) HW.out.size))
  replace O4 := Lib.hid o10
  clear g10 o10
  have hk1 : decide (((1 : Int) + (((earsR zs0).1.length : Nat) : Int)) < 0) = false := by simp; omega
  go_wp2_with fail
  refine (heldI_any _ (earsR zs0).1.length 1 _ _ (by omega) (by omega) (by omega) O4.out).mono ?_
  rintro e w11 ⟨rfl, rfl⟩
  go_wp2_with fail
  refine (toPts_own ao0 n0 c0 zs0 _ (by omega) (HV0.out.below HW.out)).mono ?_
  rintro e w12 ⟨b12, rfl, o12, p12, g12⟩
  have NEO2_12 := Lib.hid (ne_block O2.out (Nat.le_refl _) o12)
  have NEO4_12 := Lib.hid (ne_block O4.out (Nat.le_refl _) o12)
  replace O2 := Lib.hid (own_below O2.out g12)
  replace O4 := Lib.hid (own_below O4.out g12)
  replace HW := Lib.hid (bseq HW.out g12)
  clear g12
  have O12 := Lib.hid o12
  have P12 := Lib.hid p12
  clear o12 p12
  go_wp2_with fail
  refine (ears_impl (some ⟨b12, 0, none⟩) n0 n0 zs0 _ (by omega) (own_pv' O12.out)).mono ?_
  rintro e w13 ⟨v13, rfl, o13, g13⟩
  obtain ⟨ao_13, cp_13, rfl, p13⟩ := own_sliceI o13
  clear p13
  have NEO2_13 := Lib.hid (ne_block O2.out (Nat.le_refl _) o13)
  have NEO4_13 := Lib.hid (ne_block O4.out (Nat.le_refl _) o13)
  have NEO12_13 := Lib.hid (ne_block O12.out (Nat.le_refl _) o13)
  replace O2 := Lib.hid (own_below O2.out g13)
  replace O4 := Lib.hid (own_below O4.out g13)
  replace O12 := Lib.hid (own_below O12.out g13)
  replace HW := Lib.hid (bseq HW.out g13)
  clear g13
  have O13 := Lib.hid o13
  clear o13
  go_wp2_with fail
  refine (eqI_same _ _ (earsR zs0).1.length _ _ (earsR zs0).1 _ (by omega) (own_pvI rfl O13.out) (own_pvI rfl O2.out)).mono ?_
  rintro e w14 ⟨rfl, g14⟩
  replace O2 := Lib.hid (own_below O2.out g14)
  replace O4 := Lib.hid (own_below O4.out g14)
  replace O13 := Lib.hid (own_below O13.out g14)
  replace HW := Lib.hid (bseq HW.out g14)
  clear g14
  go_wp2_with fail
  refine (heldI_any _ (earsR zs0).1.length 1 _ _ (by omega) (by omega) (by omega) O4.out).mono ?_
  rintro e w15 ⟨rfl, rfl⟩
  go_wp2
  go_ret
  exact ⟨rfl, HW.out⟩
set_option maxRecDepth 100000 in
set_option maxHeartbeats 1000000 in
theorem walk (ao0 : Option Addr) (n0 c0 : Nat) (zs0 : List P2) (w : World) (hm0 : n0 ≤ 9223372036854775807) (hv0 : LView w ao0 n0 zs0) :
    Calls Try.prog 7 #[.slice ao0 n0 c0] w fun e w' => e = .returned (.bool true) ∧ Below w.heap.size w w' := by
  by_cases h0 : n0 ≤ 1048576
  rotate_left
  · clear hv0
    go_enter Try.func7, Try.ntmps7
    go_wp2_with fail
    refine (szI_no ao0 n0 c0 1048576 _ (by omega) (by omega) (by omega) hm0).mono ?_
    rintro e wz ⟨rfl, rfl⟩
    go_wp2
    go_ret
    exact ⟨rfl, Below.refl _ _⟩
  exact walk_in ao0 n0 c0 zs0 w (by omega) hv0

set_option maxRecDepth 100000 in
theorem lifted (os : Os) (started : os.Started) (H : Type) (enc : TypeId × Value → H) :
    ReturnsInHanded {} Try.checked os 7 .any (Rows.fnExactEarsOfSpec.pre6 enc Try.prog Try.f7 Rows.fnExactEarsOfRow.domain false) (Rows.fnExactEarsOfSpec.post enc Try.prog Try.f7 false true false false) := by
  refine returnsInHanded_of_change (C := Try.checked) own started (by kernel_rfl) Try.func7
    (ChangeSpec.witness6 (enc := enc) (C := Try.checked) false ⟨#[], #[.slice none 0 0], []⟩ 8 (by kernel_rfl) (by kernel_rfl) (by kernel_rfl) (by kernel_rfl)) ?_
  intro W base args ds gs before hval0 hW hcnd _
  have hval : ∀ (j : Nat) t v, Try.f7.params[j]? = some t → args[j]? = some v → Value.okWide Try.prog W .any base t v := hval0
  have hW' := hW
  obtain ⟨p, q, hA0, hV, rfl, hfz, hnd⟩ := hW
  have hA : DataW.TrodAll enc Try.prog W 0 (fun _ => true) true Try.f7.params.toList args.toList ds p := hA0
  rw [Try.params7] at hA hval
  obtain ⟨v0, vs0, d0, ds0, p0, q0, hargs, rfl, rfl, h0, r0⟩ := trodAll_cons hA
  obtain ⟨rfl, rfl, rfl⟩ := trodAll_nil r0
  obtain rfl : args = #[v0] := by cases args; simp_all
  obtain ⟨rfl, rfl⟩ := trodVars_none hV
  clear hA0 hval0
  have l0 : ∀ x ∈ p0, x.block < W.heap.size := fun x hx => hW'.lt x (by simp [hx])
  have e0 := hval 0 22 v0 rfl rfl
  obtain ⟨a0, n0, k0, z0, e0v, m0, lv0⟩ := open_pts e0 h0 l0
  have hc := walk a0 n0 k0 z0 W m0 lv0
  simp only [← e0v] at hc
  refine hc.mono fun e W' ⟨he, hg⟩ => ?_
  subst he
  exact ⟨_, rfl, post_below (pa := (p0 ++ [])) (pv := []) hW' (fun _ _ _ => (trodAll_cons_mk (shut_bool Try.underlying4 _) trodAll_mk0)) (fun sp hsp => (trodAll_cons_mk (trod_again (by decide) h0 l0 hg sp (fun x hx => hsp x (by simp [hx]))) trodAll_mk0)) (fun _ _ => rfl) (by simp)
    hg (ok_one (by kernel_rfl) rfl (okWide_bool_mk Try.underlying4 _))⟩

theorem over : Rows.fnExactEarsOfRow.holds Try.pinned (OpenSpec.ofChange Rows.fnExactEarsOfSpec) :=
  OpenClaim.holds_of_wide 7 Try.f7 rfl rfl rfl rfl rfl rfl rfl ⟨rfl, rfl, rfl, rfl, rfl⟩ rfl rfl rfl rfl rfl (by kernel_rfl) Try.func7 (by kernel_rfl)
    (of_decide_eq_true (by kernel_rfl)) (by unfold Func.isWrapper; first | (rw [if_pos (by decide +kernel)]; kernel_rfl) | (rw [if_neg (by decide +kernel)]; exact ⟨rfl, rfl⟩))
    (fun os started H enc _ => lifted os started H enc)

theorem proved : Rows.FnExactEarsOfSaid :=
  over
#print axioms proved
end Go.Proofs.Ytjhmpmaademdcaa.fnExactEarsOf
