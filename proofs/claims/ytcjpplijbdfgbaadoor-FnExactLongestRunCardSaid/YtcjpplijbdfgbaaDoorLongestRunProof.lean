/- FnExactLongestRun returns true at every list of leaves and every string. Condition: the table of species is as the program text lays it (tied). -/
import Derived.Test.YtcjpplijbdfgbaaDoorCards
import Derived.Test.YtcjpplijbdfgbaaDoorTie
import Derived.Test.YtcjpplijbdfgbaaDoorVenLaid
import Derived.Test.YtcjpplijbdfgbaaDoorK25
import Derived.Test.YtcjpplijbdfgbaaDoorK20
import Derived.Test.YtcjpplijbdfgbaaDoorK8
import Derived.Test.YtcjpplijbdfgbaaDoorSeq3
import Derived.Test.YtcjpplijbdfgbaaDoorPost
import Derived.Test.YtcjpplijbdfgbaaDoorK5
import Derived.WalkKit
import Derived.ProofKit
import Derived.OpenShut
import Derived.ChangeMaps5
import Derived.ChangeVars
import Derived.Deep.DeepHandedRow
import Derived.Lib.LaidTab
import Derived.Lib.LaidU8
import Derived.Lay
import Derived.LaidMore
import Derived.LaidSub
import Derived.MakeChecks
import Derived.SevenTiedAt
namespace Go.Proofs.YtcjpplijbdfgbaaDoor.fnExactLongestRun
open Seq2 Go.ChangeShapes Go.WideShapes Go.ChangeAt Go.RowKit Go.WideElems Go.ChangeMaps
set_option linter.unusedVariables false
set_option linter.unusedSimpArgs false

theorem own : ownKnob Tryd.prog.godebug = none := by kernel_rfl

set_option maxRecDepth 100000 in
set_option maxHeartbeats 8000000 in
theorem walk_in (ao0 : Option Addr) (n0 c0 : Nat) (zs0 : List Lf) (s1 : ByteArray) (w : World) (ht : TabAt w) (he : ErrsAt w) (hsum : (LfsSz zs0) ≤ 1048576) (hs1 : s1.size ≤ 1048576) (hm0 : n0 ≤ 9223372036854775807) (hv0 : LfsL w ao0 n0 zs0) (hx1 : s1.size ≤ 9223372036854775807) :
    Calls Tryd.prog 8 #[.slice ao0 n0 c0, .string s1] w fun e w' => e = .returned (.bool true) ∧ Below w.heap.size w w' := by
  have HS0 := Lib.hid (show (LfsSz zs0) ≤ 1048576 by omega)
  have HT := Lib.hid ht
  clear ht
  have HE := Lib.hid he
  clear he
  have HV0 := Lib.hid hv0
  have HM0 := Lib.hid hm0
  have HZ0 := Lib.hid hv0.1
  clear hv0 hm0
  go_enter Tryd.func8, Tryd.ntmps8
  have HW := Lib.hid (show Below w.heap.size w w from Below.refl _ _)
  have q1 : decide ((1048576 : Int) < (s1.size : Int)) = false := by simp; omega
  have HLEN : ((lrR zs0 s1)).1.length ≤ 1000 := lrR_len zs0 s1
  have HL0 := Lib.hid (lft_ok (l := (1048576 : Int)) (n := (LfsSz zs0)) (by omega))
  have hd0 : decide ((1048576 : Int) - ((LfsSz zs0) : Int) < 0) = false := by simp; omega
  go_wp2_with fail
  refine (szLfs_any ao0 n0 c0 zs0 ((1048576 : Int)) _ (by omega) (by omega) HM0.out (HV0.out.below HW.out)).mono ?_
  rintro e w1 ⟨rfl, g1⟩
  replace HW := Lib.hid (bseq HW.out g1)
  clear g1
  rw [HL0.out]
  go_wp2_with fail
  refine (toLfs_own ao0 n0 c0 zs0 _ HS0.out (HV0.out.below HW.out)).mono ?_
  rintro e w2 ⟨b2, rfl, o2, g2⟩
  replace HW := Lib.hid (bseq HW.out g2)
  clear g2
  have O2 := Lib.hid o2
  clear o2
  go_wp2_with fail
  refine (lr_spec _ n0 _ zs0 s1 _ (by have := HS0.out; have := HZ0.out; unfold LfsSz at *; omega) (LfsO.viewN HZ0.out O2.out)).mono ?_
  rintro e w3 ⟨v3, rfl, o3, g3⟩
  replace O2 := Lib.hid (O2.out.below g3)
  replace HW := Lib.hid (bseq HW.out g3)
  clear g3
  obtain ⟨ao_3, cp_3, rfl, p3⟩ := own_sliceI o3
  clear p3
  have O3 := Lib.hid o3
  clear o3
  clear O2
  have HLO0 := Lib.hid HW.out.size
  have LT0_O3 := Lib.hid (fun k hk => (World.ownsRow.lt O3.out k hk).2)
  go_wp2_with fail
  refine (toLfs_own ao0 n0 c0 zs0 _ HS0.out (HV0.out.below HW.out)).mono ?_
  rintro e w4 ⟨b4, rfl, o4, g4⟩
  replace O3 := Lib.hid (own_below O3.out g4)
  replace HW := Lib.hid (bseq HW.out g4)
  clear g4
  have O4 := Lib.hid o4
  clear o4
  have DX4 := Lib.hid (LfsX.of HS0.out O4.out)
  have HN := Lib.hid (show w.heap.size + 0 ≤ w4.heap.size by exact HW.out.size)
  have NEo := Lib.hid (fun (u : Value) (b2 m2 e2 s2 : Nat) (ys : List Value) (w2 : World) (hb : w4.heap.size ≤ b2) (h2 : w2.ownsRow b2 e2 s2 u m2 ys) => ne_block O3.out hb h2)
  go_wp2_with fail
  refine (lr_impl _ n0 _ zs0 s1 _ (by have := HS0.out; have := HZ0.out; unfold LfsSz at *; omega) (LfsO.viewN HZ0.out O4.out) (HT.out.below HW.out) (HE.out.below HW.out)).mono ?_
  rintro e w5 ⟨v5, rfl, o5, g5⟩
  replace O3 := Lib.hid (own_below O3.out g5)
  replace O4 := Lib.hid (O4.out.below g5)
  replace DX4 := Lib.hid (DX4.out.below g5)
  replace HW := Lib.hid (bseq HW.out g5)
  clear g5
  obtain ⟨ao_5, cp_5, rfl, p5⟩ := own_sliceI o5
  clear p5
  have O5 := Lib.hid o5
  clear o5
  have NE := Lib.hid (NEo.out _ _ _ _ _ _ _ (by simp) O5.out)
  clear NEo
  go_wp2_with fail
  refine (eqI_same _ _ ((lrR zs0 s1)).1.length _ _ ((lrR zs0 s1)).1 _ (by omega) (own_pvI rfl O5.out) (own_pvI rfl O3.out)).mono ?_
  rintro e w6 ⟨rfl, g6⟩
  replace O3 := Lib.hid (own_below O3.out g6)
  replace O4 := Lib.hid (O4.out.below g6)
  replace DX4 := Lib.hid (DX4.out.below g6)
  replace O5 := Lib.hid (own_below O5.out g6)
  replace HW := Lib.hid (bseq HW.out g6)
  clear g6
  go_wp2_with fail
  refine (toLfs_own ao0 n0 c0 zs0 _ HS0.out (HV0.out.below HW.out)).mono ?_
  rintro e w7 ⟨b7, rfl, o7, g7⟩
  replace O3 := Lib.hid (own_below O3.out g7)
  replace O4 := Lib.hid (O4.out.below g7)
  replace DX4 := Lib.hid (DX4.out.below g7)
  replace O5 := Lib.hid (own_below O5.out g7)
  replace HW := Lib.hid (bseq HW.out g7)
  clear g7
  have O7 := Lib.hid o7
  clear o7
  go_wp2_with fail
  refine (eqLfs_same _ _ n0 _ _ zs0 _ (by have := HS0.out; have := HZ0.out; unfold LfsSz at *; omega) (LfsO.viewN HZ0.out O4.out) (LfsO.viewN HZ0.out O7.out)).mono ?_
  rintro e w8 ⟨rfl, g8⟩
  replace O3 := Lib.hid (own_below O3.out g8)
  replace O4 := Lib.hid (O4.out.below g8)
  replace DX4 := Lib.hid (DX4.out.below g8)
  replace O5 := Lib.hid (own_below O5.out g8)
  replace O7 := Lib.hid (O7.out.below g8)
  replace HW := Lib.hid (bseq HW.out g8)
  clear g8
  clear O7
  go_wp2_with fail
  refine (markLfs_any _ _ _ n0 1 zs0 _ HZ0.out (by omega) (by omega) DX4.out).mono ?_
  rintro e w9 ⟨k9, rfl, hk9, g9⟩
  replace HW := Lib.hid (g9.below HW.out HLO0.out)
  replace O3 := Lib.hid (g9.own O3.out (fun k hk => by have := LT0_O3.out k hk; omega))
  replace O5 := Lib.hid (g9.own O5.out (fun k hk => by have := (World.ownsRow.lt O5.out k hk).1; (try simp at this); omega))
  clear g9 DX4 O4
  have hkk0 : decide ((k9 : Int) < 0) = false := by simp
  go_wp2_with fail
  refine (eqI_same _ _ ((lrR zs0 s1)).1.length _ _ ((lrR zs0 s1)).1 _ (by omega) (own_pvI rfl O5.out) (own_pvI rfl O3.out)).mono ?_
  rintro e w10 ⟨rfl, g10⟩
  replace O3 := Lib.hid (own_below O3.out g10)
  replace O5 := Lib.hid (own_below O5.out g10)
  replace HW := Lib.hid (bseq HW.out g10)
  clear g10
  go_wp2_with fail
  refine (markI_any _ ((lrR zs0 s1)).1.length 1 _ _ _ (by omega) (by omega) (by omega) O5.out).mono ?_
  rintro e w11 ⟨rfl, g11, o11⟩
  have gb := own_grown (B := w.heap.size + 0) O5.out g11 (by have := HN.out; simp; omega) (by have := HW.out.size; omega)
  replace O3 := Lib.hid (O3.out.kept g11 (ne_symm NE.out))
  replace HW := Lib.hid (HW.out.trans (gb.mono (by omega)))
  replace O5 := Lib.hid o11
  clear gb g11 o11
  have hk1 : decide (((1 : Int) + ((((lrR zs0 s1)).1.length : Nat) : Int)) < 0) = false := by simp; omega
  go_wp2_with fail
  refine (heldI_any _ ((lrR zs0 s1)).1.length 1 _ _ (by omega) (by omega) (by omega) O5.out).mono ?_
  rintro e wh ⟨rfl, hh⟩
  subst hh
  go_wp2_with fail
  refine (toLfs_own ao0 n0 c0 zs0 _ HS0.out (HV0.out.below HW.out)).mono ?_
  rintro e w12 ⟨b12, rfl, o12, g12⟩
  replace O3 := Lib.hid (own_below O3.out g12)
  replace O5 := Lib.hid (own_below O5.out g12)
  replace HW := Lib.hid (bseq HW.out g12)
  clear g12
  have O12 := Lib.hid o12
  clear o12
  go_wp2_with fail
  refine (lr_impl _ n0 _ zs0 s1 _ (by have := HS0.out; have := HZ0.out; unfold LfsSz at *; omega) (LfsO.viewN HZ0.out O12.out) (HT.out.below HW.out) (HE.out.below HW.out)).mono ?_
  rintro e w13 ⟨v13, rfl, o13, g13⟩
  replace O3 := Lib.hid (own_below O3.out g13)
  replace O5 := Lib.hid (own_below O5.out g13)
  replace O12 := Lib.hid (O12.out.below g13)
  replace HW := Lib.hid (bseq HW.out g13)
  clear g13
  obtain ⟨ao_13, cp_13, rfl, p13⟩ := own_sliceI o13
  clear p13
  have O13 := Lib.hid o13
  clear o13
  clear O12
  go_wp2_with fail
  refine (eqI_same _ _ ((lrR zs0 s1)).1.length _ _ ((lrR zs0 s1)).1 _ (by omega) (own_pvI rfl O13.out) (own_pvI rfl O3.out)).mono ?_
  rintro e w14 ⟨rfl, g14⟩
  replace O3 := Lib.hid (own_below O3.out g14)
  replace O5 := Lib.hid (own_below O5.out g14)
  replace O13 := Lib.hid (own_below O13.out g14)
  replace HW := Lib.hid (bseq HW.out g14)
  clear g14
  go_wp2_with fail
  refine (heldI_any _ ((lrR zs0 s1)).1.length 1 _ _ (by omega) (by omega) (by omega) O5.out).mono ?_
  rintro e wh ⟨rfl, hh⟩
  subst hh
  go_wp2
  go_ret
  exact ⟨rfl, HW.out⟩
set_option maxRecDepth 100000 in
set_option maxHeartbeats 4000000 in
theorem walk (ao0 : Option Addr) (n0 c0 : Nat) (zs0 : List Lf) (s1 : ByteArray) (w : World) (ht : TabAt w) (he : ErrsAt w) (hm0 : n0 ≤ 9223372036854775807) (hv0 : LfsL w ao0 n0 zs0) (hx1 : s1.size ≤ 9223372036854775807) :
    Calls Tryd.prog 8 #[.slice ao0 n0 c0, .string s1] w fun e w' => e = .returned (.bool true) ∧ Below w.heap.size w w' := by
  by_cases hs1 : s1.size ≤ 1048576
  rotate_left
  · have HT := Lib.hid ht
    clear ht
    have HE := Lib.hid he
    clear he
    have HV0 := Lib.hid hv0
    have HM0 := Lib.hid hm0
    have HZ0 := Lib.hid hv0.1
    clear hv0 hm0
    go_enter Tryd.func8, Tryd.ntmps8
    have HW := Lib.hid (show Below w.heap.size w w from Below.refl _ _)
    have q1 : decide ((1048576 : Int) < (s1.size : Int)) = true := by simp; omega
    go_wp2
    go_ret
    exact ⟨rfl, HW.out⟩
  by_cases hz0 : (LfsSz zs0) ≤ 1048576
  rotate_left
  · have HT := Lib.hid ht
    clear ht
    have HE := Lib.hid he
    clear he
    have HV0 := Lib.hid hv0
    have HM0 := Lib.hid hm0
    have HZ0 := Lib.hid hv0.1
    clear hv0 hm0
    go_enter Tryd.func8, Tryd.ntmps8
    have HW := Lib.hid (show Below w.heap.size w w from Below.refl _ _)
    have q1 : decide ((1048576 : Int) < (s1.size : Int)) = false := by simp; omega
    have HL0 := Lib.hid (lft_no (l := (1048576 : Int)) (n := (LfsSz zs0)) (by omega))
    go_wp2_with fail
    refine (szLfs_any ao0 n0 c0 zs0 ((1048576 : Int)) _ (by omega) (by omega) HM0.out (HV0.out.below HW.out)).mono ?_
    rintro e w1 ⟨rfl, g1⟩
    replace HW := Lib.hid (bseq HW.out g1)
    clear g1
    rw [HL0.out]
    go_wp2
    go_ret
    exact ⟨rfl, HW.out⟩
  exact walk_in ao0 n0 c0 zs0 s1 w ht he (by omega) hs1 hm0 hv0 hx1

set_option maxRecDepth 100000 in
theorem contract (H : Type) (enc : TypeId × Value → H) (W : World) (base : Nat) (args : Array Value) (ds gs : List (DataW H)) (before : List MemPlace)
    (hval : ∀ (j : Nat) t v, Tryd.f8.params[j]? = some t → args[j]? = some v → Value.okWide Tryd.prog W .any base t v)
    (hW : DataW.Whole enc Tryd.prog Tryd.f8.params.toList Rows.fnExactLongestRunSpec.vars false W args.toList ds gs before) (hL : laidMetH Tryd.prog Rows.fnExactLongestRunRow.laid W) (hsh : W.ShapedOpen Tryd.prog) :
    Calls Tryd.prog 8 args W fun e W' => ∃ v, e = .returned v ∧ Rows.fnExactLongestRunSpec.post enc Tryd.prog Tryd.f8 false true false false W args v W' := by
  have hW' := hW
  obtain ⟨p, q, hA0, hV, rfl, hfz, hnd⟩ := hW
  have hV' : DataW.TrodVars enc Tryd.prog W (fun _ => true) ["loop.example/g00956/impl.speciesTable", "loop.example/g00956/impl.errNotFound", "loop.example/g00956/impl.errRange", "loop.example/g00956/impl.errExists", "loop.example/g00956/impl.errFull", "loop.example/g00956/impl.errState"] gs q := hV
  have hA : DataW.TrodAll enc Tryd.prog W 0 (fun _ => true) true Tryd.f8.params.toList args.toList ds p := hA0
  rw [Tryd.params8] at hA hval
  obtain ⟨v0, vs0, d0, ds0, p0, q0, hargs, rfl, rfl, h0, r0⟩ := trodAll_cons hA
  obtain ⟨v1, vs1, d1, ds1, p1, q1, rfl, rfl, rfl, h1, r1⟩ := trodAll_cons r0
  obtain ⟨rfl, rfl, rfl⟩ := trodAll_nil r1
  obtain rfl : args = #[v0, v1] := by cases args; simp_all
  clear hA0
  have ht : TabAt W := by
    have hL1 := hL
    rw [MakeChecks.laidMetH_plain _ _ _ (by kernel_rfl)] at hL1
    exact tabAt_of hL1 (by unfold Rows.fnExactLongestRunRow; simp)
  have he := (show ErrsAt W by
    have hL1 := hL
    rw [MakeChecks.laidMetH_plain _ _ _ (by kernel_rfl)] at hL1
    exact errs_of hL1 (by unfold Rows.fnExactLongestRunRow; simp) (by unfold Rows.fnExactLongestRunRow; simp) (by unfold Rows.fnExactLongestRunRow; simp) (by unfold Rows.fnExactLongestRunRow; simp) (by unfold Rows.fnExactLongestRunRow; simp))
  obtain ⟨gg0, gr0, gq0, rfl, hg0⟩ := vars_uncons hV'
  obtain ⟨gg1, gr1, gq1, rfl, hg1⟩ := vars_uncons hg0
  obtain ⟨gg2, gr2, gq2, rfl, hg2⟩ := vars_uncons hg1
  obtain ⟨gg3, gr3, gq3, rfl, hg3⟩ := vars_uncons hg2
  obtain ⟨gg4, gr4, gq4, rfl, hg4⟩ := vars_uncons hg3
  obtain ⟨gg5, gr5, gq5, rfl, hg5⟩ := vars_uncons hg4
  obtain rfl := vars_end hg5
  have l0 : ∀ x ∈ p0, x.block < W.heap.size := fun x hx => hW'.lt x (by simp [hx])
  have l1 : ∀ x ∈ p1, x.block < W.heap.size := fun x hx => hW'.lt x (by simp [hx])
  have e0 := hval 0 47 v0 rfl rfl
  obtain ⟨a0, n0, k0, z0, e0v, m0, lv0⟩ := open_Lfs e0 h0 l0
  have e1 := hval 1 9 v1 rfl rfl
  obtain ⟨s1, e1v, _, _, ms1⟩ := open_string Tryd.underlying9 e1 h1
  have hc := walk a0 n0 k0 z0 s1 W ht he m0 lv0 (by have := ms1; unfold maxLen at this; omega)
  simp only [← e0v, ← e1v] at hc
  refine hc.mono fun e W' ⟨he, hg⟩ => ?_
  subst he
  exact ⟨_, rfl, post_below (pa := (p0 ++ (p1 ++ []))) (pv := q) hW' (fun _ _ _ => (trodAll_cons_mk (shut_bool Tryd.underlying4 _) trodAll_mk0)) (fun sp hsp => (trodAll_cons_mk (trod_again (by decide) h0 l0 hg sp (fun x hx => hsp x (by simp [hx]))) (trodAll_cons_mk (trod_again (by decide) h1 l1 hg sp (fun x hx => hsp x (by simp [hx]))) trodAll_mk0))) (fun sp hsp => vars_stay hg hV' (by kernel_rfl) (fun x hx => hsp x (by first | exact hx | simp [hx]))) (by simp)
    hg (ok_one (by kernel_rfl) rfl (okWide_bool_mk Tryd.underlying4 _))⟩

set_option maxRecDepth 100000 in
theorem lifted (os : Os) (started : os.Started) (H : Type) (enc : TypeId × Value → H) (F : Stop.Interp) :
    ReturnsInHanded {} Tryd.checked os 8 .any ((OpenSpec.ofChange Rows.fnExactLongestRunSpec).preRow enc Tryd.prog Tryd.f8 Rows.fnExactLongestRunRow.domain false Rows.fnExactLongestRunRow.laid) (((OpenSpec.ofChange Rows.fnExactLongestRunSpec).at F).post enc Tryd.prog Tryd.f8 false true false false) := by
  refine returnsInHanded_of_row (C := Tryd.checked) (s := OpenSpec.ofChange Rows.fnExactLongestRunSpec) own started (by kernel_rfl) Tryd.func8
    (ChangeSpec.witness_shaped (enc := enc) (C := Tryd.checked) (os := os) (X := fun w _ => laidMetH Tryd.prog Rows.fnExactLongestRunRow.laid w) false (World.laidAll Tryd.prog os Rows.fnExactLongestRunRow.laid) #[.slice none 0 0, .string ByteArray.empty] 8 (World.laidAll_os _ _ _)
      (World.shaped_of_ZipB (by kernel_rfl) (by kernel_rfl)) (by kernel_rfl) (by kernel_rfl) (by kernel_rfl)
      (by rw [MakeChecks.laidMetH_plain _ _ _ (by kernel_rfl)]; exact laidMet_laidAll _ (by kernel_rfl) (by kernel_rfl))) ?_
  intro W base args ds gs before hval hW _ _ _ hL hsh _
  exact contract H enc W base args ds gs before hval hW hL hsh

theorem said : Rows.FnExactLongestRunSaid :=
  OpenClaim.holds_of_cond 8 Tryd.f8 rfl rfl rfl rfl rfl rfl rfl ⟨rfl, rfl, rfl, rfl, rfl⟩ rfl rfl rfl rfl rfl (by kernel_rfl) Tryd.func8 (by kernel_rfl)
    (of_decide_eq_true (by kernel_rfl)) (by unfold Func.isWrapper; first | (rw [if_pos (by decide +kernel)]; kernel_rfl) | (rw [if_neg (by decide +kernel)]; exact ⟨rfl, rfl⟩))
    (fun os started H enc _ F => by rw [OpenClaim.pre_eq_preRow]; exact lifted os started H enc F)

theorem plain (f : FuncId) (fn : Func) (hf : Tryd.pinned.checked.prog.funcNamed Rows.fnExactLongestRunRow.func = some f) (hfn : Tryd.pinned.checked.prog.funcs[f]? = some fn) :
    Rows.fnExactLongestRunCard.stood.looks = Tryd.pinned.checked.prog.looks [] ∧ ∀ (j : Nat) t, fn.params[j]? = some t → Tryd.pinned.checked.prog.wantsStandIn t = false := by
  obtain rfl : f = 8 := Option.some.inj ((show Tryd.prog.funcNamed Rows.fnExactLongestRunRow.func = some 8 by kernel_rfl).symm.trans hf) |>.symm
  obtain rfl : fn = Tryd.f8 := (Option.some.inj (Tryd.func8.symm.trans hfn)).symm
  refine ⟨by kernel_rfl, fun j t ht => ?_⟩
  rw [Tryd.params8] at ht
  have hm : t ∈ [47, 9] := by simpa using Array.mem_of_getElem? ht
  have hall : ([47, 9].all fun u => !Tryd.prog.wantsStandIn u) = true := by kernel_rfl
  exact (show Tryd.prog.wantsStandIn t = false by simpa using List.all_eq_true.1 hall t hm)

theorem card : Rows.FnExactLongestRunCardSaid :=
  Claim7.holds_tied_plain_at .later [] _ _ _ _ said (fun _ h => by cases h) (by kernel_rfl) (fun _ h => by cases h) fnExactLongestRun_row_tie rfl ⟨rfl, rfl⟩ (by kernel_rfl) rfl plain (by kernel_rfl)
#print axioms card
end Go.Proofs.YtcjpplijbdfgbaaDoor.fnExactLongestRun
