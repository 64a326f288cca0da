/- FnExactReadPlacement returns true at every string. Condition: the laid variables that the row lists are as the program text lays them (tied). -/
import Derived.Test.YtmfchcaidfloaaaDoorCards
import Derived.Test.YtmfchcaidfloaaaDoorTie
import Derived.Test.YtmfchcaidfloaaaDoorNst6
import Derived.Test.YtmfchcaidfloaaaDoorFlIn
import Derived.Test.YtmfchcaidfloaaaDoorSeq3
import Derived.Test.YtmfchcaidfloaaaDoorShelfSplitN
import Derived.Test.YtmfchcaidfloaaaDoorLaidErr
import Derived.Test.YtmfchcaidfloaaaDoorPost
import Derived.Test.YtmfchcaidfloaaaDoorK5
import Derived.WalkKit
import Derived.ProofKit
import Derived.OpenShut
import Derived.ChangeMaps5
import Derived.ChangeVars
import Derived.Deep.DeepHandedRow
import Derived.Lib.LaidTab
import Derived.Lib.LaidU8
import Derived.Lay
import Derived.LaidMore
import Derived.LaidSub
import Derived.MakeChecks
import Derived.SevenTiedAt
namespace Go.Proofs.YtmfchcaidfloaaaDoor.fnExactReadPlacement
open Seq2 Go.ChangeShapes Go.WideShapes Go.ChangeAt Go.RowKit Go.WideElems Go.ChangeMaps
set_option linter.unusedVariables false
set_option linter.unusedSimpArgs false

theorem own : ownKnob Tryd.prog.godebug = none := by kernel_rfl

set_option maxRecDepth 100000 in
set_option maxHeartbeats 8000000 in
theorem walk_in (s0 : ByteArray) (w : World) (ht : True) (hN : NumOk w) (hM : MaxOk w) (hs0 : s0.size ≤ 1048576) (hx0 : s0.size ≤ 9223372036854775807) :
    Calls Tryd.prog 4 #[.string s0] w fun e w' => e = .returned (.bool true) ∧ Below w.heap.size w w' := by
  have HT := Lib.hid ht
  clear ht
  have HN := Lib.hid hN
  clear hN
  have HM := Lib.hid hM
  clear hM
  go_enter Tryd.func4, Tryd.ntmps4
  have HW := Lib.hid (show Below w.heap.size w w from Below.refl _ _)
  have q0 : decide ((1048576 : Int) < (s0.size : Int)) = false := by simp; omega
  obtain ⟨R, hR⟩ : ∃ R, rpR s0 = R := ⟨_, rfl⟩
  have HR := Lib.hid hR
  clear hR
  obtain ⟨⟨r0, r1, r2, r3, r4⟩, rc⟩ := R
  have HVN := Lib.hid (show pmW (r0, r1, r2, r3, r4) = .agg #[.int .i64 r0, .int .i64 r1, .int .i64 r2, .int .i64 r3, .int .i64 r4] from rfl)
  go_wp2_with fail
  refine (rp_spec s0 _ hs0).mono ?_
  rintro e w1 ⟨rfl, g1⟩
  replace HW := Lib.hid (bseq HW.out g1)
  clear g1
  rw [HR.out]
  try simp only [HVN.out]
  go_wp2_with fail
  refine (rp_impl s0 _ hs0 (HN.out.below (HW.out.alloc HW.out.size _) (Nat.le_refl _)) (HM.out.below (HW.out.alloc HW.out.size _) (Nat.le_refl _))).mono ?_
  rintro e w2 ⟨rfl, g2⟩
  have HW0 := Lib.hid ((g2.block _ (by simp)).trans (World.alloc_heap_new w1 (.cells #[.int .i64 r0, .int .i64 r1, .int .i64 r2, .int .i64 r3, .int .i64 r4] 25)))
  replace g2 := bseq (one_alloc _) g2
  replace HW := Lib.hid (bseq HW.out g2)
  clear g2
  have hzHW0 := blk_lt HW0.out
  have hw0_0 := (cell_of_arr HW0.out (j := 0) rfl).1
  have hw0_1 := (cell_of_arr HW0.out (j := 1) rfl).1
  have hw0_2 := (cell_of_arr HW0.out (j := 2) rfl).1
  have hw0_3 := (cell_of_arr HW0.out (j := 3) rfl).1
  have hw0_4 := (cell_of_arr HW0.out (j := 4) rfl).1
  rw [HR.out]
  try simp only [HVN.out]
  go_wp2_with fail
  refine (eqPm_same r0 r1 r2 r3 r4 _).mono ?_
  rintro e w3 ⟨rfl, g3⟩
  clear hzHW0 hw0_0 hw0_1 hw0_2 hw0_3 hw0_4
  have HG0 := Lib.hid ((g3.block _ (by simp)).trans (World.alloc_heap_new w2 (.cells #[.int .i64 r0, .int .i64 r1, .int .i64 r2, .int .i64 r3, .int .i64 r4] 25)))
  replace g3 := bseq (one_alloc _) g3
  replace HW0 := Lib.hid ((g3.block _ (blk_lt HW0.out)).trans HW0.out)
  replace HW := Lib.hid (bseq HW.out g3)
  clear g3
  have hzHW0 := blk_lt HW0.out
  have hw0_0 := (cell_of_arr HW0.out (j := 0) rfl).1
  have hw0_1 := (cell_of_arr HW0.out (j := 1) rfl).1
  have hw0_2 := (cell_of_arr HW0.out (j := 2) rfl).1
  have hw0_3 := (cell_of_arr HW0.out (j := 3) rfl).1
  have hw0_4 := (cell_of_arr HW0.out (j := 4) rfl).1
  have hzHG0 := blk_lt HG0.out
  have hg0_0 := (cell_of_arr HG0.out (j := 0) rfl).1
  have hg0_1 := (cell_of_arr HG0.out (j := 1) rfl).1
  have hg0_2 := (cell_of_arr HG0.out (j := 2) rfl).1
  have hg0_3 := (cell_of_arr HG0.out (j := 3) rfl).1
  have hg0_4 := (cell_of_arr HG0.out (j := 4) rfl).1
  go_wp2
  go_ret
  exact ⟨rfl, HW.out⟩
set_option maxRecDepth 100000 in
set_option maxHeartbeats 4000000 in
theorem walk (s0 : ByteArray) (w : World) (ht : True) (hN : NumOk w) (hM : MaxOk w) (hx0 : s0.size ≤ 9223372036854775807) :
    Calls Tryd.prog 4 #[.string s0] w fun e w' => e = .returned (.bool true) ∧ Below w.heap.size w w' := by
  by_cases hs0 : s0.size ≤ 1048576
  rotate_left
  · have HT := Lib.hid ht
    clear ht
    have HN := Lib.hid hN
    clear hN
    have HM := Lib.hid hM
    clear hM
    go_enter Tryd.func4, Tryd.ntmps4
    have HW := Lib.hid (show Below w.heap.size w w from Below.refl _ _)
    have q0 : decide ((1048576 : Int) < (s0.size : Int)) = true := by simp; omega
    go_wp2
    go_ret
    exact ⟨rfl, HW.out⟩
  exact walk_in s0 w ht hN hM hs0 hx0

set_option maxRecDepth 100000 in
theorem contract (H : Type) (enc : TypeId × Value → H) (W : World) (base : Nat) (args : Array Value) (ds gs : List (DataW H)) (before : List MemPlace)
    (hval : ∀ (j : Nat) t v, Tryd.f4.params[j]? = some t → args[j]? = some v → Value.okWide Tryd.prog W .any base t v)
    (hW : DataW.Whole enc Tryd.prog Tryd.f4.params.toList Rows.fnExactReadPlacementSpec.vars false W args.toList ds gs before) (hL : laidMetH Tryd.prog Rows.fnExactReadPlacementRow.laid W) (hsh : W.ShapedOpen Tryd.prog) :
    Calls Tryd.prog 4 args W fun e W' => ∃ v, e = .returned v ∧ Rows.fnExactReadPlacementSpec.post enc Tryd.prog Tryd.f4 false true false false W args v W' := by
  have hW' := hW
  obtain ⟨p, q, hA0, hV, rfl, hfz, hnd⟩ := hW
  obtain ⟨rfl, rfl⟩ := trodVars_none hV
  have hA : DataW.TrodAll enc Tryd.prog W 0 (fun _ => true) true Tryd.f4.params.toList args.toList ds p := hA0
  rw [Tryd.params4] at hA hval
  obtain ⟨v0, vs0, d0, ds0, p0, q0, hargs, rfl, rfl, h0, r0⟩ := trodAll_cons hA
  obtain ⟨rfl, rfl, rfl⟩ := trodAll_nil r0
  obtain rfl : args = #[v0] := by cases args; simp_all
  clear hA0
  have ht : True := trivial
  have hN := (show NumOk W by
    have hL1 := hL
    rw [MakeChecks.laidMetH_plain _ _ _ (by kernel_rfl)] at hL1
    have htab : TabOk W := by
      have h1 := laidMetH.filter (fun x => x.1 == "internal/strconv.uint64pow10") hL
      have e : (Rows.fnExactReadPlacementRow.laid.filter (fun x => x.1 == "internal/strconv.uint64pow10")) = [("internal/strconv.uint64pow10", Lib.tabData .u64 Lib.pow10Tab)] := by kernel_rfl
      rw [e, MakeChecks.laidMetH_plain _ _ _ (by kernel_rfl)] at h1
      exact Lib.tabIs_of_head (rest := []) gTab (by kernel_rfl) (t := 207) Tryd.underlying207 Tryd.underlying173 (by kernel_rfl) (by kernel_rfl) h1
    have hsyn : ErrAt 8 W := err_of (n := "strconv.ErrSyntax") hL1 (show ("strconv.ErrSyntax", Rows.laid_strconv_ErrSyntax) ∈ Rows.fnExactReadPlacementRow.laid by unfold Rows.fnExactReadPlacementRow; simp) (by kernel_rfl) (t := 83) (by kernel_rfl) Tryd.underlying83
    have hrng : ErrAt 9 W := err_of (n := "strconv.ErrRange") hL1 (show ("strconv.ErrRange", Rows.laid_strconv_ErrRange) ∈ Rows.fnExactReadPlacementRow.laid by unfold Rows.fnExactReadPlacementRow; simp) (by kernel_rfl) (t := 83) (by kernel_rfl) Tryd.underlying83
    exact ⟨htab, hsyn, hrng⟩)
  have hM := (show MaxOk W by
    obtain ⟨m, hm⟩ := Tryd.laysM147.s1_3 W hsh
    have hm2 : W.cell? ⟨6, 0, none⟩ = some (.int .i64 m) := hm
    refine ⟨?_, m, hm2⟩
    rcases Nat.lt_or_ge 6 W.heap.size with h' | h'
    · exact h'
    · simp [World.cell?, Array.getElem?_eq_none h'] at hm2)
  have l0 : ∀ x ∈ p0, x.block < W.heap.size := fun x hx => hW'.lt x (by simp [hx])
  have e0 := hval 0 9 v0 rfl rfl
  obtain ⟨s0, e0v, _, _, ms0⟩ := open_string Tryd.underlying9 e0 h0
  have hc := walk s0 W ht hN hM (by have := ms0; unfold maxLen at this; omega)
  simp only [← e0v] at hc
  refine hc.mono fun e W' ⟨he, hg⟩ => ?_
  subst he
  exact ⟨_, rfl, post_below (pa := (p0 ++ [])) (pv := []) hW' (fun _ _ _ => (trodAll_cons_mk (shut_bool Tryd.underlying4 _) trodAll_mk0)) (fun sp hsp => (trodAll_cons_mk (trod_again (by decide) h0 l0 hg sp (fun x hx => hsp x (by simp [hx]))) trodAll_mk0)) (fun _ _ => rfl) (by simp)
    hg (ok_one (by kernel_rfl) rfl (okWide_bool_mk Tryd.underlying4 _))⟩

set_option maxRecDepth 100000 in
theorem lifted (os : Os) (started : os.Started) (H : Type) (enc : TypeId × Value → H) (F : Stop.Interp) :
    ReturnsInHanded {} Tryd.checked os 4 .any ((OpenSpec.ofChange Rows.fnExactReadPlacementSpec).preRow enc Tryd.prog Tryd.f4 Rows.fnExactReadPlacementRow.domain false Rows.fnExactReadPlacementRow.laid) (((OpenSpec.ofChange Rows.fnExactReadPlacementSpec).at F).post enc Tryd.prog Tryd.f4 false true false false) := by
  refine returnsInHanded_of_row (C := Tryd.checked) (s := OpenSpec.ofChange Rows.fnExactReadPlacementSpec) own started (by kernel_rfl) Tryd.func4
    (ChangeSpec.witness_shaped (enc := enc) (C := Tryd.checked) (os := os) (X := fun w _ => laidMetH Tryd.prog Rows.fnExactReadPlacementRow.laid w) false (World.laidAll Tryd.prog os Rows.fnExactReadPlacementRow.laid) #[.string ByteArray.empty] 8 (World.laidAll_os _ _ _)
      (World.shaped_of_ZipB (by kernel_rfl) (by kernel_rfl)) (by kernel_rfl) (by kernel_rfl) (by kernel_rfl)
      (by rw [MakeChecks.laidMetH_plain _ _ _ (by kernel_rfl)]; exact laidMet_laidAll _ (by kernel_rfl) (by kernel_rfl))) ?_
  intro W base args ds gs before hval hW _ _ _ hL hsh _
  exact contract H enc W base args ds gs before hval hW hL hsh

theorem said : Rows.FnExactReadPlacementSaid :=
  OpenClaim.holds_of_cond 4 Tryd.f4 rfl rfl rfl rfl rfl rfl rfl ⟨rfl, rfl, rfl, rfl, rfl⟩ rfl rfl rfl rfl rfl (by kernel_rfl) Tryd.func4 (by kernel_rfl)
    (of_decide_eq_true (by kernel_rfl)) (by unfold Func.isWrapper; first | (rw [if_pos (by decide +kernel)]; kernel_rfl) | (rw [if_neg (by decide +kernel)]; exact ⟨rfl, rfl⟩))
    (fun os started H enc _ F => by rw [OpenClaim.pre_eq_preRow]; exact lifted os started H enc F)

theorem plain (f : FuncId) (fn : Func) (hf : Tryd.pinned.checked.prog.funcNamed Rows.fnExactReadPlacementRow.func = some f) (hfn : Tryd.pinned.checked.prog.funcs[f]? = some fn) :
    Rows.fnExactReadPlacementCard.stood.looks = Tryd.pinned.checked.prog.looks [] ∧ ∀ (j : Nat) t, fn.params[j]? = some t → Tryd.pinned.checked.prog.wantsStandIn t = false := by
  obtain rfl : f = 4 := Option.some.inj ((show Tryd.prog.funcNamed Rows.fnExactReadPlacementRow.func = some 4 by kernel_rfl).symm.trans hf) |>.symm
  obtain rfl : fn = Tryd.f4 := (Option.some.inj (Tryd.func4.symm.trans hfn)).symm
  refine ⟨by kernel_rfl, fun j t ht => ?_⟩
  rw [Tryd.params4] at ht
  have hm : t ∈ [9] := by simpa using Array.mem_of_getElem? ht
  have hall : ([9].all fun u => !Tryd.prog.wantsStandIn u) = true := by kernel_rfl
  exact (show Tryd.prog.wantsStandIn t = false by simpa using List.all_eq_true.1 hall t hm)

theorem card : Rows.FnExactReadPlacementCardSaid :=
  Claim7.holds_tied_plain_at .later [] _ _ _ _ said (fun _ h => by cases h) (by kernel_rfl) (fun _ h => by cases h) fnExactReadPlacement_row_tie rfl ⟨rfl, rfl⟩ (by kernel_rfl) rfl plain (by kernel_rfl)
#print axioms card
end Go.Proofs.YtmfchcaidfloaaaDoor.fnExactReadPlacement
