/- FnExactPolygonText returns true at every slice of points. Condition: the laid variables that the row lists are as the program text lays them (tied). -/
import Derived.Test.YtmfchcaidfloaaaDoorCards
import Derived.Test.YtmfchcaidfloaaaDoorTie
import Derived.Test.YtmfchcaidfloaaaDoorPgt2
import Derived.Test.YtmfchcaidfloaaaDoorPgA
import Derived.Test.YtmfchcaidfloaaaDoorSeq3
import Derived.Test.YtmfchcaidfloaaaDoorPost
import Derived.Test.YtmfchcaidfloaaaDoorK5
import Derived.WalkKit
import Derived.ProofKit
import Derived.OpenShut
import Derived.ChangeMaps5
import Derived.ChangeVars
import Derived.Deep.DeepHandedRow
import Derived.Lib.LaidTab
import Derived.Lib.LaidU8
import Derived.Lay
import Derived.LaidMore
import Derived.LaidSub
import Derived.MakeChecks
import Derived.SevenTiedAt
namespace Go.Proofs.YtmfchcaidfloaaaDoor.fnExactPolygonText
open Seq2 Go.ChangeShapes Go.WideShapes Go.ChangeAt Go.RowKit Go.WideElems Go.ChangeMaps
set_option linter.unusedVariables false
set_option linter.unusedSimpArgs false

theorem own : ownKnob Tryd.prog.godebug = none := by kernel_rfl

set_option maxRecDepth 100000 in
set_option maxHeartbeats 8000000 in
theorem walk_in (ao0 : Option Addr) (n0 c0 : Nat) (zs0 : List P2) (w : World) (ht : True) (hk : TabOk w) (hsum : n0 ≤ 1048576) (hm0 : n0 ≤ 9223372036854775807) (hv0 : LView w ao0 n0 zs0) :
    Calls Tryd.prog 6 #[.slice ao0 n0 c0] w fun e w' => e = .returned (.bool true) ∧ Below w.heap.size w w' := by
  have HS0 := Lib.hid (show n0 ≤ 1048576 by omega)
  have HT := Lib.hid ht
  clear ht
  have HK := Lib.hid hk
  clear hk
  have HV0 := Lib.hid hv0
  have HM0 := Lib.hid hm0
  clear hv0 hm0
  go_enter Tryd.func6, Tryd.ntmps6
  have HW := Lib.hid (show Below w.heap.size w w from Below.refl _ _)
  have HL0 := Lib.hid (lft_ok (l := (1048576 : Int)) (n := n0) (by omega))
  have hd0 : decide ((1048576 : Int) - (n0 : Int) < 0) = false := by simp; omega
  go_wp2_with fail
  refine (szPtB_any ao0 n0 c0 ((1048576 : Int)) _ (by omega) (by omega) HM0.out).mono ?_
  rintro e w1 ⟨rfl, g1⟩
  replace HW := Lib.hid (bseq HW.out g1)
  clear g1
  rw [HL0.out]
  go_wp2_with fail
  refine (toPts_own ao0 n0 c0 zs0 _ (by have := HS0.out; omega) (HV0.out.below HW.out)).mono ?_
  rintro e w2 ⟨b2, rfl, hw2, o2, g2⟩
  replace HW := Lib.hid (bseq HW.out g2)
  clear g2
  have O2 := Lib.hid o2
  clear hw2 o2
  go_wp2_with fail
  refine (pgt_spec _ n0 _ zs0 _ (by have := HS0.out; omega) O2.out).mono ?_
  rintro e w3 ⟨rfl, g3⟩
  replace O2 := Lib.hid (O2.out.below g3)
  replace HW := Lib.hid (bseq HW.out g3)
  clear g3
  clear O2
  have HLO0 := Lib.hid HW.out.size
  go_wp2_with fail
  refine (toPts_own ao0 n0 c0 zs0 _ (by have := HS0.out; omega) (HV0.out.below HW.out)).mono ?_
  rintro e w4 ⟨b4, rfl, hw4, o4, g4⟩
  replace HW := Lib.hid (bseq HW.out g4)
  clear g4
  have O4 := Lib.hid o4
  clear hw4 o4
  go_wp2_with fail
  refine (pgt_impl _ n0 _ zs0 _ (by have := HS0.out; omega) O4.out (HK.out.below HW.out (Nat.le_refl _))).mono ?_
  rintro e w5 ⟨rfl, g5⟩
  replace O4 := Lib.hid (O4.out.below g5)
  replace HW := Lib.hid (bseq HW.out g5)
  clear g5
  go_wp2_with fail
  refine (toPts_own ao0 n0 c0 zs0 _ (by have := HS0.out; omega) (HV0.out.below HW.out)).mono ?_
  rintro e w6 ⟨b6, rfl, hw6, o6, g6⟩
  replace O4 := Lib.hid (O4.out.below g6)
  replace HW := Lib.hid (bseq HW.out g6)
  clear g6
  have O6 := Lib.hid o6
  clear hw6 o6
  go_wp2_with fail
  refine (eqPts_same _ _ n0 _ _ zs0 _ (by have := HS0.out; omega) O4.out O6.out).mono ?_
  rintro e w7 ⟨rfl, g7⟩
  replace O4 := Lib.hid (O4.out.below g7)
  replace O6 := Lib.hid (O6.out.below g7)
  replace HW := Lib.hid (bseq HW.out g7)
  clear g7
  clear O6
  clear O4
  go_wp2
  go_ret
  exact ⟨rfl, HW.out⟩
set_option maxRecDepth 100000 in
set_option maxHeartbeats 4000000 in
theorem walk (ao0 : Option Addr) (n0 c0 : Nat) (zs0 : List P2) (w : World) (ht : True) (hk : TabOk w) (hm0 : n0 ≤ 9223372036854775807) (hv0 : LView w ao0 n0 zs0) :
    Calls Tryd.prog 6 #[.slice ao0 n0 c0] w fun e w' => e = .returned (.bool true) ∧ Below w.heap.size w w' := by
  by_cases hz0 : n0 ≤ 1048576
  rotate_left
  · have HT := Lib.hid ht
    clear ht
    have HK := Lib.hid hk
    clear hk
    have HV0 := Lib.hid hv0
    have HM0 := Lib.hid hm0
    clear hv0 hm0
    go_enter Tryd.func6, Tryd.ntmps6
    have HW := Lib.hid (show Below w.heap.size w w from Below.refl _ _)
    have HL0 := Lib.hid (lft_no (l := (1048576 : Int)) (n := n0) (by omega))
    go_wp2_with fail
    refine (szPtB_any ao0 n0 c0 ((1048576 : Int)) _ (by omega) (by omega) HM0.out).mono ?_
    rintro e w1 ⟨rfl, g1⟩
    replace HW := Lib.hid (bseq HW.out g1)
    clear g1
    rw [HL0.out]
    go_wp2
    go_ret
    exact ⟨rfl, HW.out⟩
  exact walk_in ao0 n0 c0 zs0 w ht hk (by omega) hm0 hv0

set_option maxRecDepth 100000 in
theorem contract (H : Type) (enc : TypeId × Value → H) (W : World) (base : Nat) (args : Array Value) (ds gs : List (DataW H)) (before : List MemPlace)
    (hval : ∀ (j : Nat) t v, Tryd.f6.params[j]? = some t → args[j]? = some v → Value.okWide Tryd.prog W .any base t v)
    (hW : DataW.Whole enc Tryd.prog Tryd.f6.params.toList Rows.fnExactPolygonTextSpec.vars false W args.toList ds gs before) (hL : laidMetH Tryd.prog Rows.fnExactPolygonTextRow.laid W) (hsh : W.ShapedOpen Tryd.prog) :
    Calls Tryd.prog 6 args W fun e W' => ∃ v, e = .returned v ∧ Rows.fnExactPolygonTextSpec.post enc Tryd.prog Tryd.f6 false true false false W args v W' := by
  have hW' := hW
  obtain ⟨p, q, hA0, hV, rfl, hfz, hnd⟩ := hW
  obtain ⟨rfl, rfl⟩ := trodVars_none hV
  have hA : DataW.TrodAll enc Tryd.prog W 0 (fun _ => true) true Tryd.f6.params.toList args.toList ds p := hA0
  rw [Tryd.params6] at hA hval
  obtain ⟨v0, vs0, d0, ds0, p0, q0, hargs, rfl, rfl, h0, r0⟩ := trodAll_cons hA
  obtain ⟨rfl, rfl, rfl⟩ := trodAll_nil r0
  obtain rfl : args = #[v0] := by cases args; simp_all
  clear hA0
  have ht : True := trivial
  have hk := (show TabOk W by
    have h1 := laidMetH.filter (fun x => x.1 == "internal/strconv.uint64pow10") hL
    have e : (Rows.fnExactPolygonTextRow.laid.filter (fun x => x.1 == "internal/strconv.uint64pow10")) = [("internal/strconv.uint64pow10", Lib.tabData .u64 Lib.pow10Tab)] := by kernel_rfl
    rw [e, MakeChecks.laidMetH_plain _ _ _ (by kernel_rfl)] at h1
    exact Lib.tabIs_of_head (rest := []) gTab (by kernel_rfl) (t := 207) Tryd.underlying207 Tryd.underlying173 (by kernel_rfl) (by kernel_rfl) h1)
  have l0 : ∀ x ∈ p0, x.block < W.heap.size := fun x hx => hW'.lt x (by simp [hx])
  have e0 := hval 0 53 v0 rfl rfl
  obtain ⟨a0, n0, k0, z0, e0v, m0, lv0⟩ := open_pts e0 h0 l0
  have hc := walk a0 n0 k0 z0 W ht hk m0 lv0
  simp only [← e0v] at hc
  refine hc.mono fun e W' ⟨he, hg⟩ => ?_
  subst he
  exact ⟨_, rfl, post_below (pa := (p0 ++ [])) (pv := []) hW' (fun _ _ _ => (trodAll_cons_mk (shut_bool Tryd.underlying4 _) trodAll_mk0)) (fun sp hsp => (trodAll_cons_mk (trod_again (by decide) h0 l0 hg sp (fun x hx => hsp x (by simp [hx]))) trodAll_mk0)) (fun _ _ => rfl) (by simp)
    hg (ok_one (by kernel_rfl) rfl (okWide_bool_mk Tryd.underlying4 _))⟩

set_option maxRecDepth 100000 in
theorem lifted (os : Os) (started : os.Started) (H : Type) (enc : TypeId × Value → H) (F : Stop.Interp) :
    ReturnsInHanded {} Tryd.checked os 6 .any ((OpenSpec.ofChange Rows.fnExactPolygonTextSpec).preRow enc Tryd.prog Tryd.f6 Rows.fnExactPolygonTextRow.domain false Rows.fnExactPolygonTextRow.laid) (((OpenSpec.ofChange Rows.fnExactPolygonTextSpec).at F).post enc Tryd.prog Tryd.f6 false true false false) := by
  refine returnsInHanded_of_row (C := Tryd.checked) (s := OpenSpec.ofChange Rows.fnExactPolygonTextSpec) own started (by kernel_rfl) Tryd.func6
    (ChangeSpec.witness_shaped (enc := enc) (C := Tryd.checked) (os := os) (X := fun w _ => laidMetH Tryd.prog Rows.fnExactPolygonTextRow.laid w) false (World.laidAll Tryd.prog os Rows.fnExactPolygonTextRow.laid) #[.slice none 0 0] 8 (World.laidAll_os _ _ _)
      (World.shaped_of_ZipB (by kernel_rfl) (by kernel_rfl)) (by kernel_rfl) (by kernel_rfl) (by kernel_rfl)
      (by rw [MakeChecks.laidMetH_plain _ _ _ (by kernel_rfl)]; exact laidMet_laidAll _ (by kernel_rfl) (by kernel_rfl))) ?_
  intro W base args ds gs before hval hW _ _ _ hL hsh _
  exact contract H enc W base args ds gs before hval hW hL hsh

theorem said : Rows.FnExactPolygonTextSaid :=
  OpenClaim.holds_of_cond 6 Tryd.f6 rfl rfl rfl rfl rfl rfl rfl ⟨rfl, rfl, rfl, rfl, rfl⟩ rfl rfl rfl rfl rfl (by kernel_rfl) Tryd.func6 (by kernel_rfl)
    (of_decide_eq_true (by kernel_rfl)) (by unfold Func.isWrapper; first | (rw [if_pos (by decide +kernel)]; kernel_rfl) | (rw [if_neg (by decide +kernel)]; exact ⟨rfl, rfl⟩))
    (fun os started H enc _ F => by rw [OpenClaim.pre_eq_preRow]; exact lifted os started H enc F)

theorem plain (f : FuncId) (fn : Func) (hf : Tryd.pinned.checked.prog.funcNamed Rows.fnExactPolygonTextRow.func = some f) (hfn : Tryd.pinned.checked.prog.funcs[f]? = some fn) :
    Rows.fnExactPolygonTextCard.stood.looks = Tryd.pinned.checked.prog.looks [] ∧ ∀ (j : Nat) t, fn.params[j]? = some t → Tryd.pinned.checked.prog.wantsStandIn t = false := by
  obtain rfl : f = 6 := Option.some.inj ((show Tryd.prog.funcNamed Rows.fnExactPolygonTextRow.func = some 6 by kernel_rfl).symm.trans hf) |>.symm
  obtain rfl : fn = Tryd.f6 := (Option.some.inj (Tryd.func6.symm.trans hfn)).symm
  refine ⟨by kernel_rfl, fun j t ht => ?_⟩
  rw [Tryd.params6] at ht
  have hm : t ∈ [53] := by simpa using Array.mem_of_getElem? ht
  have hall : ([53].all fun u => !Tryd.prog.wantsStandIn u) = true := by kernel_rfl
  exact (show Tryd.prog.wantsStandIn t = false by simpa using List.all_eq_true.1 hall t hm)

theorem card : Rows.FnExactPolygonTextCardSaid :=
  Claim7.holds_tied_plain_at .later [] _ _ _ _ said (fun _ h => by cases h) (by kernel_rfl) (fun _ h => by cases h) fnExactPolygonText_row_tie rfl ⟨rfl, rfl⟩ (by kernel_rfl) rfl plain (by kernel_rfl)
#print axioms card
end Go.Proofs.YtmfchcaidfloaaaDoor.fnExactPolygonText
