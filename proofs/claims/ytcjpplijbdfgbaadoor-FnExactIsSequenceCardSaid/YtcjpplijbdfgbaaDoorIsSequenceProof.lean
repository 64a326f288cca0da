/- FnExactIsSequence returns true at every list of leaves and every list of indices. Condition: the table of species is as the program text lays it (tied). -/
import Derived.Test.YtcjpplijbdfgbaaDoorCards
import Derived.Test.YtcjpplijbdfgbaaDoorTie
import Derived.Test.YtcjpplijbdfgbaaDoorVenLaid
import Derived.Test.YtcjpplijbdfgbaaDoorSql1
import Derived.Test.YtcjpplijbdfgbaaDoorK20
import Derived.Test.YtcjpplijbdfgbaaDoorIsq
import Derived.Test.YtcjpplijbdfgbaaDoorSeq3
import Derived.Test.YtcjpplijbdfgbaaDoorPost
import Derived.Test.YtcjpplijbdfgbaaDoorK5
import Derived.WalkKit
import Derived.ProofKit
import Derived.OpenShut
import Derived.ChangeMaps5
import Derived.ChangeVars
import Derived.Deep.DeepHandedRow
import Derived.Lib.LaidTab
import Derived.Lib.LaidU8
import Derived.Lay
import Derived.LaidMore
import Derived.LaidSub
import Derived.MakeChecks
import Derived.SevenTiedAt
namespace Go.Proofs.YtcjpplijbdfgbaaDoor.fnExactIsSequence
open Seq2 Go.ChangeShapes Go.WideShapes Go.ChangeAt Go.RowKit Go.WideElems Go.ChangeMaps
set_option linter.unusedVariables false
set_option linter.unusedSimpArgs false

theorem own : ownKnob Tryd.prog.godebug = none := by kernel_rfl

set_option maxRecDepth 100000 in
set_option maxHeartbeats 8000000 in
theorem walk_in (ao0 : Option Addr) (n0 c0 : Nat) (zs0 : List Lf) (ao1 : Option Addr) (c1 : Nat) (zs1 : List Int) (w : World) (ht : TabAt w) (hsum : (LfsSz zs0) ≤ 1048576) (hs1 : zs1.length ≤ 1048576) (hm0 : n0 ≤ 9223372036854775807) (hv0 : LfsL w ao0 n0 zs0) (hm1 : zs1.length ≤ 9223372036854775807) (hv1 : IsL w ao1 zs1) :
    Calls Tryd.prog 7 #[.slice ao0 n0 c0, .slice ao1 zs1.length c1] w fun e w' => e = .returned (.bool true) ∧ Below w.heap.size w w' := by
  have HS0 := Lib.hid (show (LfsSz zs0) ≤ 1048576 by omega)
  have HT := Lib.hid ht
  clear ht
  have HV0 := Lib.hid hv0
  have HM0 := Lib.hid hm0
  have HZ0 := Lib.hid hv0.1
  clear hv0 hm0
  have HV1 := Lib.hid hv1
  clear hv1
  go_enter Tryd.func7, Tryd.ntmps7
  have HW := Lib.hid (show Below w.heap.size w w from Below.refl _ _)
  have q1 : decide ((1048576 : Int) < (zs1.length : Int)) = false := by simp; omega
  have hne : (isqB zs0 zs1 != isqB zs0 zs1) = false := by simp
  have HL0 := Lib.hid (lft_ok (l := (1048576 : Int)) (n := (LfsSz zs0)) (by omega))
  have hd0 : decide ((1048576 : Int) - ((LfsSz zs0) : Int) < 0) = false := by simp; omega
  go_wp2_with fail
  refine (szLfs_any ao0 n0 c0 zs0 ((1048576 : Int)) _ (by omega) (by omega) HM0.out (HV0.out.below HW.out)).mono ?_
  rintro e w1 ⟨rfl, g1⟩
  replace HW := Lib.hid (bseq HW.out g1)
  clear g1
  rw [HL0.out]
  go_wp2_with fail
  refine (toLfs_own ao0 n0 c0 zs0 _ HS0.out (HV0.out.below HW.out)).mono ?_
  rintro e w2 ⟨b2, rfl, o2, g2⟩
  replace HW := Lib.hid (bseq HW.out g2)
  clear g2
  have O2 := Lib.hid o2
  clear o2
  go_wp2_with fail
  refine (toIs_own ao1 c1 zs1 _ hs1 (HV1.out.below HW.out)).mono ?_
  rintro e w3 ⟨rfl, o3, g3⟩
  replace O2 := Lib.hid (O2.out.below g3)
  replace HW := Lib.hid (bseq HW.out g3)
  clear g3
  have O3 := Lib.hid o3
  clear o3
  go_wp2_with fail
  refine (isq_spec _ _ _ _ _ _ zs0 zs1 _ (by have := HS0.out; have := HZ0.out; unfold LfsSz at *; omega) rfl hs1 (LfsO.viewN HZ0.out O2.out) O3.out).mono ?_
  rintro e w4 ⟨rfl, g4⟩
  replace O2 := Lib.hid (O2.out.below g4)
  replace O3 := Lib.hid (O3.out.below g4)
  replace HW := Lib.hid (bseq HW.out g4)
  clear g4
  clear O2
  clear O3
  have HLO0 := Lib.hid HW.out.size
  go_wp2_with fail
  refine (toLfs_own ao0 n0 c0 zs0 _ HS0.out (HV0.out.below HW.out)).mono ?_
  rintro e w5 ⟨b5, rfl, o5, g5⟩
  replace HW := Lib.hid (bseq HW.out g5)
  clear g5
  have O5 := Lib.hid o5
  clear o5
  have HLO1 := Lib.hid HW.out.size
  go_wp2_with fail
  refine (toIs_own ao1 c1 zs1 _ hs1 (HV1.out.below HW.out)).mono ?_
  rintro e w6 ⟨rfl, o6, g6⟩
  replace O5 := Lib.hid (O5.out.below g6)
  replace HW := Lib.hid (bseq HW.out g6)
  clear g6
  have O6 := Lib.hid o6
  clear o6
  go_wp2_with fail
  refine (isq_impl _ _ _ _ _ _ zs0 zs1 _ (by have := HS0.out; have := HZ0.out; unfold LfsSz at *; omega) rfl hs1 (LfsO.viewN HZ0.out O5.out) O6.out (HT.out.below HW.out)).mono ?_
  rintro e w7 ⟨rfl, g7⟩
  replace O5 := Lib.hid (O5.out.below g7)
  replace O6 := Lib.hid (O6.out.below g7)
  replace HW := Lib.hid (bseq HW.out g7)
  clear g7
  go_wp2_with fail
  refine (toLfs_own ao0 n0 c0 zs0 _ HS0.out (HV0.out.below HW.out)).mono ?_
  rintro e w8 ⟨b8, rfl, o8, g8⟩
  replace O5 := Lib.hid (O5.out.below g8)
  replace O6 := Lib.hid (O6.out.below g8)
  replace HW := Lib.hid (bseq HW.out g8)
  clear g8
  have O8 := Lib.hid o8
  clear o8
  go_wp2_with fail
  refine (eqLfs_same _ _ n0 _ _ zs0 _ (by have := HS0.out; have := HZ0.out; unfold LfsSz at *; omega) (LfsO.viewN HZ0.out O5.out) (LfsO.viewN HZ0.out O8.out)).mono ?_
  rintro e w9 ⟨rfl, g9⟩
  replace O5 := Lib.hid (O5.out.below g9)
  replace O6 := Lib.hid (O6.out.below g9)
  replace O8 := Lib.hid (O8.out.below g9)
  replace HW := Lib.hid (bseq HW.out g9)
  clear g9
  clear O8
  clear O5
  go_wp2_with fail
  refine (toIs_own ao1 c1 zs1 _ hs1 (HV1.out.below HW.out)).mono ?_
  rintro e w10 ⟨rfl, o10, g10⟩
  replace O6 := Lib.hid (O6.out.below g10)
  replace HW := Lib.hid (bseq HW.out g10)
  clear g10
  have O10 := Lib.hid o10
  clear o10
  go_wp2_with fail
  refine (eqIs_same _ _ _ _ zs1 _ hs1 O6.out O10.out).mono ?_
  rintro e w11 ⟨rfl, g11⟩
  replace O6 := Lib.hid (O6.out.below g11)
  replace O10 := Lib.hid (O10.out.below g11)
  replace HW := Lib.hid (bseq HW.out g11)
  clear g11
  clear O10
  clear O6
  go_wp2
  go_ret
  exact ⟨rfl, HW.out⟩
set_option maxRecDepth 100000 in
set_option maxHeartbeats 4000000 in
theorem walk (ao0 : Option Addr) (n0 c0 : Nat) (zs0 : List Lf) (ao1 : Option Addr) (c1 : Nat) (zs1 : List Int) (w : World) (ht : TabAt w) (hm0 : n0 ≤ 9223372036854775807) (hv0 : LfsL w ao0 n0 zs0) (hm1 : zs1.length ≤ 9223372036854775807) (hv1 : IsL w ao1 zs1) :
    Calls Tryd.prog 7 #[.slice ao0 n0 c0, .slice ao1 zs1.length c1] w fun e w' => e = .returned (.bool true) ∧ Below w.heap.size w w' := by
  by_cases hs1 : zs1.length ≤ 1048576
  rotate_left
  · have HT := Lib.hid ht
    clear ht
    have HV0 := Lib.hid hv0
    have HM0 := Lib.hid hm0
    have HZ0 := Lib.hid hv0.1
    clear hv0 hm0
    have HV1 := Lib.hid hv1
    clear hv1
    go_enter Tryd.func7, Tryd.ntmps7
    have HW := Lib.hid (show Below w.heap.size w w from Below.refl _ _)
    have q1 : decide ((1048576 : Int) < (zs1.length : Int)) = true := by simp; omega
    go_wp2
    go_ret
    exact ⟨rfl, HW.out⟩
  by_cases hz0 : (LfsSz zs0) ≤ 1048576
  rotate_left
  · have HT := Lib.hid ht
    clear ht
    have HV0 := Lib.hid hv0
    have HM0 := Lib.hid hm0
    have HZ0 := Lib.hid hv0.1
    clear hv0 hm0
    have HV1 := Lib.hid hv1
    clear hv1
    go_enter Tryd.func7, Tryd.ntmps7
    have HW := Lib.hid (show Below w.heap.size w w from Below.refl _ _)
    have q1 : decide ((1048576 : Int) < (zs1.length : Int)) = false := by simp; omega
    have HL0 := Lib.hid (lft_no (l := (1048576 : Int)) (n := (LfsSz zs0)) (by omega))
    go_wp2_with fail
    refine (szLfs_any ao0 n0 c0 zs0 ((1048576 : Int)) _ (by omega) (by omega) HM0.out (HV0.out.below HW.out)).mono ?_
    rintro e w1 ⟨rfl, g1⟩
    replace HW := Lib.hid (bseq HW.out g1)
    clear g1
    rw [HL0.out]
    go_wp2
    go_ret
    exact ⟨rfl, HW.out⟩
  exact walk_in ao0 n0 c0 zs0 ao1 c1 zs1 w ht (by omega) hs1 hm0 hv0 hm1 hv1

set_option maxRecDepth 100000 in
theorem contract (H : Type) (enc : TypeId × Value → H) (W : World) (base : Nat) (args : Array Value) (ds gs : List (DataW H)) (before : List MemPlace)
    (hval : ∀ (j : Nat) t v, Tryd.f7.params[j]? = some t → args[j]? = some v → Value.okWide Tryd.prog W .any base t v)
    (hW : DataW.Whole enc Tryd.prog Tryd.f7.params.toList Rows.fnExactIsSequenceSpec.vars false W args.toList ds gs before) (hL : laidMetH Tryd.prog Rows.fnExactIsSequenceRow.laid W) (hsh : W.ShapedOpen Tryd.prog) :
    Calls Tryd.prog 7 args W fun e W' => ∃ v, e = .returned v ∧ Rows.fnExactIsSequenceSpec.post enc Tryd.prog Tryd.f7 false true false false W args v W' := by
  have hW' := hW
  obtain ⟨p, q, hA0, hV, rfl, hfz, hnd⟩ := hW
  have hV' : DataW.TrodVars enc Tryd.prog W (fun _ => true) ["loop.example/g00956/impl.speciesTable"] gs q := hV
  have hA : DataW.TrodAll enc Tryd.prog W 0 (fun _ => true) true Tryd.f7.params.toList args.toList ds p := hA0
  rw [Tryd.params7] at hA hval
  obtain ⟨v0, vs0, d0, ds0, p0, q0, hargs, rfl, rfl, h0, r0⟩ := trodAll_cons hA
  obtain ⟨v1, vs1, d1, ds1, p1, q1, rfl, rfl, rfl, h1, r1⟩ := trodAll_cons r0
  obtain ⟨rfl, rfl, rfl⟩ := trodAll_nil r1
  obtain rfl : args = #[v0, v1] := by cases args; simp_all
  clear hA0
  have ht : TabAt W := by
    have hL1 := hL
    rw [MakeChecks.laidMetH_plain _ _ _ (by kernel_rfl)] at hL1
    exact tabAt_of hL1 (by unfold Rows.fnExactIsSequenceRow; simp)
  obtain ⟨gg, hgs⟩ : ∃ gg, gs = [gg] := by
    obtain ⟨_, _, _, _, d, _, hh, _⟩ := trodVars_one hV'
    exact ⟨d, hh⟩
  subst hgs
  have l0 : ∀ x ∈ p0, x.block < W.heap.size := fun x hx => hW'.lt x (by simp [hx])
  have l1 : ∀ x ∈ p1, x.block < W.heap.size := fun x hx => hW'.lt x (by simp [hx])
  have e0 := hval 0 47 v0 rfl rfl
  obtain ⟨a0, n0, k0, z0, e0v, m0, lv0⟩ := open_Lfs e0 h0 l0
  have e1 := hval 1 55 v1 rfl rfl
  obtain ⟨a1, k1, z1, e1v, m1, lv1⟩ := open_is e1 h1 l1
  have hc := walk a0 n0 k0 z0 a1 k1 z1 W ht  m0 lv0 m1 lv1
  simp only [← e0v, ← e1v] at hc
  refine hc.mono fun e W' ⟨he, hg⟩ => ?_
  subst he
  exact ⟨_, rfl, post_below (pa := (p0 ++ (p1 ++ []))) (pv := q) hW' (fun _ _ _ => (trodAll_cons_mk (shut_bool Tryd.underlying4 _) trodAll_mk0)) (fun sp hsp => (trodAll_cons_mk (trod_again (by decide) h0 l0 hg sp (fun x hx => hsp x (by simp [hx]))) (trodAll_cons_mk (trod_again (by decide) h1 l1 hg sp (fun x hx => hsp x (by simp [hx]))) trodAll_mk0))) (fun sp hsp => species_stay hg hV' (fun x hx => hsp x (by first | exact hx | simp [hx]))) (by simp)
    hg (ok_one (by kernel_rfl) rfl (okWide_bool_mk Tryd.underlying4 _))⟩

set_option maxRecDepth 100000 in
theorem lifted (os : Os) (started : os.Started) (H : Type) (enc : TypeId × Value → H) (F : Stop.Interp) :
    ReturnsInHanded {} Tryd.checked os 7 .any ((OpenSpec.ofChange Rows.fnExactIsSequenceSpec).preRow enc Tryd.prog Tryd.f7 Rows.fnExactIsSequenceRow.domain false Rows.fnExactIsSequenceRow.laid) (((OpenSpec.ofChange Rows.fnExactIsSequenceSpec).at F).post enc Tryd.prog Tryd.f7 false true false false) := by
  refine returnsInHanded_of_row (C := Tryd.checked) (s := OpenSpec.ofChange Rows.fnExactIsSequenceSpec) own started (by kernel_rfl) Tryd.func7
    (ChangeSpec.witness_shaped (enc := enc) (C := Tryd.checked) (os := os) (X := fun w _ => laidMetH Tryd.prog Rows.fnExactIsSequenceRow.laid w) false (World.laidAll Tryd.prog os Rows.fnExactIsSequenceRow.laid) #[.slice none 0 0, .slice none 0 0] 8 (World.laidAll_os _ _ _)
      (World.shaped_of_ZipB (by kernel_rfl) (by kernel_rfl)) (by kernel_rfl) (by kernel_rfl) (by kernel_rfl)
      (by rw [MakeChecks.laidMetH_plain _ _ _ (by kernel_rfl)]; exact laidMet_laidAll _ (by kernel_rfl) (by kernel_rfl))) ?_
  intro W base args ds gs before hval hW _ _ _ hL hsh _
  exact contract H enc W base args ds gs before hval hW hL hsh

theorem said : Rows.FnExactIsSequenceSaid :=
  OpenClaim.holds_of_cond 7 Tryd.f7 rfl rfl rfl rfl rfl rfl rfl ⟨rfl, rfl, rfl, rfl, rfl⟩ rfl rfl rfl rfl rfl (by kernel_rfl) Tryd.func7 (by kernel_rfl)
    (of_decide_eq_true (by kernel_rfl)) (by unfold Func.isWrapper; first | (rw [if_pos (by decide +kernel)]; kernel_rfl) | (rw [if_neg (by decide +kernel)]; exact ⟨rfl, rfl⟩))
    (fun os started H enc _ F => by rw [OpenClaim.pre_eq_preRow]; exact lifted os started H enc F)

theorem plain (f : FuncId) (fn : Func) (hf : Tryd.pinned.checked.prog.funcNamed Rows.fnExactIsSequenceRow.func = some f) (hfn : Tryd.pinned.checked.prog.funcs[f]? = some fn) :
    Rows.fnExactIsSequenceCard.stood.looks = Tryd.pinned.checked.prog.looks [] ∧ ∀ (j : Nat) t, fn.params[j]? = some t → Tryd.pinned.checked.prog.wantsStandIn t = false := by
  obtain rfl : f = 7 := Option.some.inj ((show Tryd.prog.funcNamed Rows.fnExactIsSequenceRow.func = some 7 by kernel_rfl).symm.trans hf) |>.symm
  obtain rfl : fn = Tryd.f7 := (Option.some.inj (Tryd.func7.symm.trans hfn)).symm
  refine ⟨by kernel_rfl, fun j t ht => ?_⟩
  rw [Tryd.params7] at ht
  have hm : t ∈ [47, 55] := by simpa using Array.mem_of_getElem? ht
  have hall : ([47, 55].all fun u => !Tryd.prog.wantsStandIn u) = true := by kernel_rfl
  exact (show Tryd.prog.wantsStandIn t = false by simpa using List.all_eq_true.1 hall t hm)

theorem card : Rows.FnExactIsSequenceCardSaid :=
  Claim7.holds_tied_plain_at .later [] _ _ _ _ said (fun _ h => by cases h) (by kernel_rfl) (fun _ h => by cases h) fnExactIsSequence_row_tie rfl ⟨rfl, rfl⟩ (by kernel_rfl) rfl plain (by kernel_rfl)
#print axioms card
end Go.Proofs.YtcjpplijbdfgbaaDoor.fnExactIsSequence
