/- FnExactBestMatch returns true at every list of leaves, every number and both ways. Condition: the table of species is as the program text lays it (tied). -/
import Derived.Test.YtcjpplijbdfgbaaDoorCards
import Derived.Test.YtcjpplijbdfgbaaDoorTie
import Derived.Test.YtcjpplijbdfgbaaDoorVenLaid
import Derived.Test.YtcjpplijbdfgbaaDoorK22
import Derived.Test.YtcjpplijbdfgbaaDoorK20
import Derived.Test.YtcjpplijbdfgbaaDoorSeq3
import Derived.Test.YtcjpplijbdfgbaaDoorPost
import Derived.Test.YtcjpplijbdfgbaaDoorK5
import Derived.WalkKit
import Derived.ProofKit
import Derived.OpenShut
import Derived.ChangeMaps5
import Derived.ChangeVars
import Derived.Deep.DeepHandedRow
import Derived.Lib.LaidTab
import Derived.Lib.LaidU8
import Derived.Lay
import Derived.LaidMore
import Derived.LaidSub
import Derived.MakeChecks
import Derived.SevenTiedAt
namespace Go.Proofs.YtcjpplijbdfgbaaDoor.fnExactBestMatch
open Seq2 Go.ChangeShapes Go.WideShapes Go.ChangeAt Go.RowKit Go.WideElems Go.ChangeMaps
set_option linter.unusedVariables false
set_option linter.unusedSimpArgs false

theorem own : ownKnob Tryd.prog.godebug = none := by kernel_rfl

set_option maxRecDepth 100000 in
set_option maxHeartbeats 8000000 in
theorem walk_in (ao0 : Option Addr) (n0 c0 : Nat) (zs0 : List Lf) (x1 : Int) (x2 : Bool) (w : World) (ht : TabAt w) (he : ErrsAt w) (hsum : (LfsSz zs0) ≤ 1048576) (hm0 : n0 ≤ 9223372036854775807) (hv0 : LfsL w ao0 n0 zs0) (hx1 : (Lit.int .i64 x1).wf = true) :
    Calls Tryd.prog 6 #[.slice ao0 n0 c0, .int .i64 x1, .bool x2] w fun e w' => e = .returned (.bool true) ∧ Below w.heap.size w w' := by
  have HS0 := Lib.hid (show (LfsSz zs0) ≤ 1048576 by omega)
  have HT := Lib.hid ht
  clear ht
  have HE := Lib.hid he
  clear he
  have HV0 := Lib.hid hv0
  have HM0 := Lib.hid hm0
  have HZ0 := Lib.hid hv0.1
  clear hv0 hm0
  go_enter Tryd.func6, Tryd.ntmps6
  have HW := Lib.hid (show Below w.heap.size w w from Below.refl _ _)
  have hne : (bmR zs0 x1 x2 != bmR zs0 x1 x2) = false := by simp
  have HL0 := Lib.hid (lft_ok (l := (1048576 : Int)) (n := (LfsSz zs0)) (by omega))
  have hd0 : decide ((1048576 : Int) - ((LfsSz zs0) : Int) < 0) = false := by simp; omega
  go_wp2_with fail
  refine (szLfs_any ao0 n0 c0 zs0 ((1048576 : Int)) _ (by omega) (by omega) HM0.out (HV0.out.below HW.out)).mono ?_
  rintro e w1 ⟨rfl, g1⟩
  replace HW := Lib.hid (bseq HW.out g1)
  clear g1
  rw [HL0.out]
  go_wp2_with fail
  refine (toLfs_own ao0 n0 c0 zs0 _ HS0.out (HV0.out.below HW.out)).mono ?_
  rintro e w2 ⟨b2, rfl, o2, g2⟩
  replace HW := Lib.hid (bseq HW.out g2)
  clear g2
  have O2 := Lib.hid o2
  clear o2
  go_wp2_with fail
  refine (bst_spec _ _ _ zs0 x1 x2 _ (by have := HS0.out; have := HZ0.out; unfold LfsSz at *; omega) (LfsO.viewN HZ0.out O2.out)).mono ?_
  rintro e w3 ⟨rfl, g3⟩
  replace O2 := Lib.hid (O2.out.below g3)
  replace HW := Lib.hid (bseq HW.out g3)
  clear g3
  clear O2
  have HLO0 := Lib.hid HW.out.size
  go_wp2_with fail
  refine (toLfs_own ao0 n0 c0 zs0 _ HS0.out (HV0.out.below HW.out)).mono ?_
  rintro e w4 ⟨b4, rfl, o4, g4⟩
  replace HW := Lib.hid (bseq HW.out g4)
  clear g4
  have O4 := Lib.hid o4
  clear o4
  go_wp2_with fail
  refine (bst_impl _ _ _ zs0 x1 x2 _ (by have := HS0.out; have := HZ0.out; unfold LfsSz at *; omega) (LfsO.viewN HZ0.out O4.out) (HT.out.below HW.out) (HE.out.below HW.out)).mono ?_
  rintro e w5 ⟨rfl, g5⟩
  replace O4 := Lib.hid (O4.out.below g5)
  replace HW := Lib.hid (bseq HW.out g5)
  clear g5
  go_wp2_with fail
  refine (toLfs_own ao0 n0 c0 zs0 _ HS0.out (HV0.out.below HW.out)).mono ?_
  rintro e w6 ⟨b6, rfl, o6, g6⟩
  replace O4 := Lib.hid (O4.out.below g6)
  replace HW := Lib.hid (bseq HW.out g6)
  clear g6
  have O6 := Lib.hid o6
  clear o6
  go_wp2_with fail
  refine (eqLfs_same _ _ n0 _ _ zs0 _ (by have := HS0.out; have := HZ0.out; unfold LfsSz at *; omega) (LfsO.viewN HZ0.out O4.out) (LfsO.viewN HZ0.out O6.out)).mono ?_
  rintro e w7 ⟨rfl, g7⟩
  replace O4 := Lib.hid (O4.out.below g7)
  replace O6 := Lib.hid (O6.out.below g7)
  replace HW := Lib.hid (bseq HW.out g7)
  clear g7
  clear O6
  clear O4
  go_wp2
  go_ret
  exact ⟨rfl, HW.out⟩
set_option maxRecDepth 100000 in
set_option maxHeartbeats 4000000 in
theorem walk (ao0 : Option Addr) (n0 c0 : Nat) (zs0 : List Lf) (x1 : Int) (x2 : Bool) (w : World) (ht : TabAt w) (he : ErrsAt w) (hm0 : n0 ≤ 9223372036854775807) (hv0 : LfsL w ao0 n0 zs0) (hx1 : (Lit.int .i64 x1).wf = true) :
    Calls Tryd.prog 6 #[.slice ao0 n0 c0, .int .i64 x1, .bool x2] w fun e w' => e = .returned (.bool true) ∧ Below w.heap.size w w' := by
  by_cases hz0 : (LfsSz zs0) ≤ 1048576
  rotate_left
  · have HT := Lib.hid ht
    clear ht
    have HE := Lib.hid he
    clear he
    have HV0 := Lib.hid hv0
    have HM0 := Lib.hid hm0
    have HZ0 := Lib.hid hv0.1
    clear hv0 hm0
    go_enter Tryd.func6, Tryd.ntmps6
    have HW := Lib.hid (show Below w.heap.size w w from Below.refl _ _)
    have HL0 := Lib.hid (lft_no (l := (1048576 : Int)) (n := (LfsSz zs0)) (by omega))
    go_wp2_with fail
    refine (szLfs_any ao0 n0 c0 zs0 ((1048576 : Int)) _ (by omega) (by omega) HM0.out (HV0.out.below HW.out)).mono ?_
    rintro e w1 ⟨rfl, g1⟩
    replace HW := Lib.hid (bseq HW.out g1)
    clear g1
    rw [HL0.out]
    go_wp2
    go_ret
    exact ⟨rfl, HW.out⟩
  exact walk_in ao0 n0 c0 zs0 x1 x2 w ht he (by omega) hm0 hv0 hx1

set_option maxRecDepth 100000 in
theorem contract (H : Type) (enc : TypeId × Value → H) (W : World) (base : Nat) (args : Array Value) (ds gs : List (DataW H)) (before : List MemPlace)
    (hval : ∀ (j : Nat) t v, Tryd.f6.params[j]? = some t → args[j]? = some v → Value.okWide Tryd.prog W .any base t v)
    (hW : DataW.Whole enc Tryd.prog Tryd.f6.params.toList Rows.fnExactBestMatchSpec.vars false W args.toList ds gs before) (hL : laidMetH Tryd.prog Rows.fnExactBestMatchRow.laid W) (hsh : W.ShapedOpen Tryd.prog) :
    Calls Tryd.prog 6 args W fun e W' => ∃ v, e = .returned v ∧ Rows.fnExactBestMatchSpec.post enc Tryd.prog Tryd.f6 false true false false W args v W' := by
  have hW' := hW
  obtain ⟨p, q, hA0, hV, rfl, hfz, hnd⟩ := hW
  have hV' : DataW.TrodVars enc Tryd.prog W (fun _ => true) ["loop.example/g00956/impl.speciesTable", "loop.example/g00956/impl.errRange", "loop.example/g00956/impl.errNotFound", "loop.example/g00956/impl.errExists", "loop.example/g00956/impl.errFull", "loop.example/g00956/impl.errState"] gs q := hV
  have hA : DataW.TrodAll enc Tryd.prog W 0 (fun _ => true) true Tryd.f6.params.toList args.toList ds p := hA0
  rw [Tryd.params6] at hA hval
  obtain ⟨v0, vs0, d0, ds0, p0, q0, hargs, rfl, rfl, h0, r0⟩ := trodAll_cons hA
  obtain ⟨v1, vs1, d1, ds1, p1, q1, rfl, rfl, rfl, h1, r1⟩ := trodAll_cons r0
  obtain ⟨v2, vs2, d2, ds2, p2, q2, rfl, rfl, rfl, h2, r2⟩ := trodAll_cons r1
  obtain ⟨rfl, rfl, rfl⟩ := trodAll_nil r2
  obtain rfl : args = #[v0, v1, v2] := by cases args; simp_all
  clear hA0
  have ht : TabAt W := by
    have hL1 := hL
    rw [MakeChecks.laidMetH_plain _ _ _ (by kernel_rfl)] at hL1
    exact tabAt_of hL1 (by unfold Rows.fnExactBestMatchRow; simp)
  have he := (show ErrsAt W by
    have hL1 := hL
    rw [MakeChecks.laidMetH_plain _ _ _ (by kernel_rfl)] at hL1
    exact errs_of hL1 (by unfold Rows.fnExactBestMatchRow; simp) (by unfold Rows.fnExactBestMatchRow; simp) (by unfold Rows.fnExactBestMatchRow; simp) (by unfold Rows.fnExactBestMatchRow; simp) (by unfold Rows.fnExactBestMatchRow; simp))
  obtain ⟨gg0, gr0, gq0, rfl, hg0⟩ := vars_uncons hV'
  obtain ⟨gg1, gr1, gq1, rfl, hg1⟩ := vars_uncons hg0
  obtain ⟨gg2, gr2, gq2, rfl, hg2⟩ := vars_uncons hg1
  obtain ⟨gg3, gr3, gq3, rfl, hg3⟩ := vars_uncons hg2
  obtain ⟨gg4, gr4, gq4, rfl, hg4⟩ := vars_uncons hg3
  obtain ⟨gg5, gr5, gq5, rfl, hg5⟩ := vars_uncons hg4
  obtain rfl := vars_end hg5
  have l0 : ∀ x ∈ p0, x.block < W.heap.size := fun x hx => hW'.lt x (by simp [hx])
  have l1 : ∀ x ∈ p1, x.block < W.heap.size := fun x hx => hW'.lt x (by simp [hx])
  have l2 : ∀ x ∈ p2, x.block < W.heap.size := fun x hx => hW'.lt x (by simp [hx])
  have e0 := hval 0 47 v0 rfl rfl
  obtain ⟨a0, n0, k0, z0, e0v, m0, lv0⟩ := open_Lfs e0 h0 l0
  have e1 := hval 1 2 v1 rfl rfl
  obtain ⟨a1, e1v, _, _, w1⟩ := open_int Tryd.underlying2 e1 h1
  have e2 := hval 2 4 v2 rfl rfl
  obtain ⟨a2, e2v, _⟩ := open_bool Tryd.underlying4 e2 h2
  have hc := walk a0 n0 k0 z0 a1 a2 W ht he m0 lv0 w1
  simp only [← e0v, ← e1v, ← e2v] at hc
  refine hc.mono fun e W' ⟨he, hg⟩ => ?_
  subst he
  exact ⟨_, rfl, post_below (pa := (p0 ++ (p1 ++ (p2 ++ [])))) (pv := q) hW' (fun _ _ _ => (trodAll_cons_mk (shut_bool Tryd.underlying4 _) trodAll_mk0)) (fun sp hsp => (trodAll_cons_mk (trod_again (by decide) h0 l0 hg sp (fun x hx => hsp x (by simp [hx]))) (trodAll_cons_mk (trod_again (by decide) h1 l1 hg sp (fun x hx => hsp x (by simp [hx]))) (trodAll_cons_mk (trod_again (by decide) h2 l2 hg sp (fun x hx => hsp x (by simp [hx]))) trodAll_mk0)))) (fun sp hsp => vars_stay hg hV' (by kernel_rfl) (fun x hx => hsp x (by first | exact hx | simp [hx]))) (by simp)
    hg (ok_one (by kernel_rfl) rfl (okWide_bool_mk Tryd.underlying4 _))⟩

set_option maxRecDepth 100000 in
theorem lifted (os : Os) (started : os.Started) (H : Type) (enc : TypeId × Value → H) (F : Stop.Interp) :
    ReturnsInHanded {} Tryd.checked os 6 .any ((OpenSpec.ofChange Rows.fnExactBestMatchSpec).preRow enc Tryd.prog Tryd.f6 Rows.fnExactBestMatchRow.domain false Rows.fnExactBestMatchRow.laid) (((OpenSpec.ofChange Rows.fnExactBestMatchSpec).at F).post enc Tryd.prog Tryd.f6 false true false false) := by
  refine returnsInHanded_of_row (C := Tryd.checked) (s := OpenSpec.ofChange Rows.fnExactBestMatchSpec) own started (by kernel_rfl) Tryd.func6
    (ChangeSpec.witness_shaped (enc := enc) (C := Tryd.checked) (os := os) (X := fun w _ => laidMetH Tryd.prog Rows.fnExactBestMatchRow.laid w) false (World.laidAll Tryd.prog os Rows.fnExactBestMatchRow.laid) #[.slice none 0 0, .int .i64 0, .bool false] 8 (World.laidAll_os _ _ _)
      (World.shaped_of_ZipB (by kernel_rfl) (by kernel_rfl)) (by kernel_rfl) (by kernel_rfl) (by kernel_rfl)
      (by rw [MakeChecks.laidMetH_plain _ _ _ (by kernel_rfl)]; exact laidMet_laidAll _ (by kernel_rfl) (by kernel_rfl))) ?_
  intro W base args ds gs before hval hW _ _ _ hL hsh _
  exact contract H enc W base args ds gs before hval hW hL hsh

theorem said : Rows.FnExactBestMatchSaid :=
  OpenClaim.holds_of_cond 6 Tryd.f6 rfl rfl rfl rfl rfl rfl rfl ⟨rfl, rfl, rfl, rfl, rfl⟩ rfl rfl rfl rfl rfl (by kernel_rfl) Tryd.func6 (by kernel_rfl)
    (of_decide_eq_true (by kernel_rfl)) (by unfold Func.isWrapper; first | (rw [if_pos (by decide +kernel)]; kernel_rfl) | (rw [if_neg (by decide +kernel)]; exact ⟨rfl, rfl⟩))
    (fun os started H enc _ F => by rw [OpenClaim.pre_eq_preRow]; exact lifted os started H enc F)

theorem plain (f : FuncId) (fn : Func) (hf : Tryd.pinned.checked.prog.funcNamed Rows.fnExactBestMatchRow.func = some f) (hfn : Tryd.pinned.checked.prog.funcs[f]? = some fn) :
    Rows.fnExactBestMatchCard.stood.looks = Tryd.pinned.checked.prog.looks [] ∧ ∀ (j : Nat) t, fn.params[j]? = some t → Tryd.pinned.checked.prog.wantsStandIn t = false := by
  obtain rfl : f = 6 := Option.some.inj ((show Tryd.prog.funcNamed Rows.fnExactBestMatchRow.func = some 6 by kernel_rfl).symm.trans hf) |>.symm
  obtain rfl : fn = Tryd.f6 := (Option.some.inj (Tryd.func6.symm.trans hfn)).symm
  refine ⟨by kernel_rfl, fun j t ht => ?_⟩
  rw [Tryd.params6] at ht
  have hm : t ∈ [47, 2, 4] := by simpa using Array.mem_of_getElem? ht
  have hall : ([47, 2, 4].all fun u => !Tryd.prog.wantsStandIn u) = true := by kernel_rfl
  exact (show Tryd.prog.wantsStandIn t = false by simpa using List.all_eq_true.1 hall t hm)

theorem card : Rows.FnExactBestMatchCardSaid :=
  Claim7.holds_tied_plain_at .later [] _ _ _ _ said (fun _ h => by cases h) (by kernel_rfl) (fun _ h => by cases h) fnExactBestMatch_row_tie rfl ⟨rfl, rfl⟩ (by kernel_rfl) rfl plain (by kernel_rfl)
#print axioms card
end Go.Proofs.YtcjpplijbdfgbaaDoor.fnExactBestMatch
