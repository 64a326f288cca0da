/- FnExactReadPoint returns true at every string, and leaves it as it was. Condition: the tables and error values of the library that the row lists are as the program text lays them (tied). -/
import Derived.Test.YtfaahcbdglbcjaaDoorCards
import Derived.Test.YtfaahcbdglbcjaaDoorTie
import Derived.Test.YtfaahcbdglbcjaaDoorReadPtI
import Derived.Test.YtfaahcbdglbcjaaDoorLaidErr
import Derived.Test.YtfaahcbdglbcjaaDoorTurnExp
import Derived.Test.YtfaahcbdglbcjaaDoorPost
import Derived.WalkKit
import Derived.ProofKit
import Derived.OpenShut
import Derived.ChangeMaps5
import Derived.Deep.DeepHandedRow
import Derived.Lib.LaidTab
import Derived.Lay
import Derived.LaidMore
import Derived.LaidSub
import Derived.MakeChecks
import Derived.SevenTiedAt
namespace Go.Proofs.YtfaahcbdglbcjaaDoor.fnExactReadPoint
open Go.ChangeShapes Go.WideShapes Go.ChangeAt Go.RowKit Go.ChangeMaps
set_option linter.unusedVariables false

theorem own : ownKnob Tryd.prog.godebug = none := by kernel_rfl

set_option maxHeartbeats 1000000 in
theorem walk_in (s : ByteArray) (w : World) (hs : s.size ≤ 1048576) (hN : NumOk w) (hM : MaxOk w) :
    Calls Tryd.prog 5 #[.string s] w fun e w' => e = .returned (.bool true) ∧ Below w.heap.size w w' := by
  have e1 : decide (1048576 < (s.size : Int)) = false := by simp; omega
  have HS := Lib.hid (fun w => readPS s w hs)
  have HI := Lib.hid (fun w => readI s w hs)
  have HN := Lib.hid hN
  have HM := Lib.hid hM
  clear hN hM
  generalize rpO s.data.toList = r at *
  go_enter Tryd.func5, Tryd.ntmps5
  go_wp2_with fail
  refine (HS.out _).mono ?_
  rintro e w1 ⟨rfl, g1⟩
  have HB1 := Lib.hid g1
  have HN1 := Lib.hid (HN.out.below (below_alloc g1 (.cells #[.int .i64 (r.getD (0, 0)).1, .int .i64 (r.getD (0, 0)).2] 25)) (Nat.le_refl _))
  have HM1 := Lib.hid (HM.out.below (below_alloc g1 (.cells #[.int .i64 (r.getD (0, 0)).1, .int .i64 (r.getD (0, 0)).2] 25)) (Nat.le_refl _))
  clear g1
  generalize (r.getD (0, 0)).1 = x at *
  generalize (r.getD (0, 0)).2 = y at *
  generalize r.isSome = b at *
  go_wp2_with fail
  refine (HI.out _ HN1.out HM1.out).mono ?_
  rintro e w2 ⟨rfl, g2⟩
  obtain ⟨k2, q2⟩ := bcell g2
  have HB2 := Lib.hid g2
  have n1 : w1.heap.size < w2.heap.size := by have := g2.size; simp at this; omega
  clear g2
  go_wp2_with fail
  refine (eqPoint_yes _ _ _).mono ?_
  rintro e w3 ⟨rfl, g3⟩
  have HB3 := Lib.hid g3
  clear g3 k2 q2
  go_wp2
  go_ret
  exact ⟨rfl, bseq (below_alloc (bseq (below_alloc HB1.out _) HB2.out) _) HB3.out⟩
theorem walk (s : ByteArray) (w0 : s.size ≤ maxLen) (w : World) (hN : NumOk w) (hM : MaxOk w) :
    Calls Tryd.prog 5 #[.string s] w fun e w' => e = .returned (.bool true) ∧ Below w.heap.size w w' := by
  by_cases h : s.size ≤ 1048576
  · exact walk_in s w h hN hM
  · have hs := w0
    unfold maxLen at hs
    clear hN hM
    go_enter Tryd.func5, Tryd.ntmps5
    go_wp2
    go_ret
    exact ⟨rfl, Below.refl _ _⟩

set_option maxRecDepth 100000 in
theorem contract (H : Type) (enc : TypeId × Value → H) (W : World) (base : Nat) (args : Array Value) (ds gs : List (DataW H)) (before : List MemPlace)
    (hval : ∀ (j : Nat) t v, Tryd.f5.params[j]? = some t → args[j]? = some v → Value.okWide Tryd.prog W .any base t v)
    (hW : DataW.Whole enc Tryd.prog Tryd.f5.params.toList Rows.fnExactReadPointSpec.vars false W args.toList ds gs before) (hL : laidMetH Tryd.prog Rows.fnExactReadPointRow.laid W) (hsh : W.ShapedOpen Tryd.prog) :
    Calls Tryd.prog 5 args W fun e W' => ∃ v, e = .returned v ∧ Rows.fnExactReadPointSpec.post enc Tryd.prog Tryd.f5 false true false false W args v W' := by
  have hW' := hW
  obtain ⟨p, q, hA0, hV, rfl, hfz, hnd⟩ := hW
  have hA : DataW.TrodAll enc Tryd.prog W 0 (fun _ => true) true Tryd.f5.params.toList args.toList ds p := hA0
  rw [Tryd.params5] at hA hval
  obtain ⟨v0, vs0, d0, ds0, p0, q0, hargs, rfl, rfl, h0, r0⟩ := trodAll_cons hA
  obtain ⟨rfl, rfl, rfl⟩ := trodAll_nil r0
  obtain rfl : args = #[v0] := by cases args; simp_all
  obtain ⟨rfl, rfl⟩ := trodVars_none hV
  clear hA0
  obtain ⟨a0, rfl, rfl, rfl, w0⟩ := open_string Tryd.underlying9 (hval 0 9 v0 rfl rfl) h0
  simp only [List.append_nil] at hW'
  have htab : TabOk W := by
    have h1 := laidMetH.filter (fun x => x.1 == "internal/strconv.uint64pow10") hL
    have e : (Rows.fnExactReadPointRow.laid.filter (fun x => x.1 == "internal/strconv.uint64pow10")) = [("internal/strconv.uint64pow10", Lib.tabData .u64 Lib.pow10Tab)] := by kernel_rfl
    rw [e, MakeChecks.laidMetH_plain _ _ _ (by kernel_rfl)] at h1
    exact Lib.tabIs_of_head (rest := []) gTab (by kernel_rfl) (t := 108) Tryd.underlying108 Tryd.underlying63 (by kernel_rfl) (by kernel_rfl) h1
  have hL1 : laidMet Tryd.prog Rows.fnExactReadPointRow.laid W := by rw [MakeChecks.laidMetH_plain _ _ _ (by kernel_rfl)] at hL; exact hL
  have hsyn : ErrAt 1 W := err_of (n := "strconv.ErrSyntax") hL1 (show ("strconv.ErrSyntax", Rows.laid_strconv_ErrSyntax) ∈ Rows.fnExactReadPointRow.laid by unfold Rows.fnExactReadPointRow; simp) (by kernel_rfl) (t := 73) (by kernel_rfl) Tryd.underlying73
  have hrng : ErrAt 2 W := err_of (n := "strconv.ErrRange") hL1 (show ("strconv.ErrRange", Rows.laid_strconv_ErrRange) ∈ Rows.fnExactReadPointRow.laid by unfold Rows.fnExactReadPointRow; simp) (by kernel_rfl) (t := 73) (by kernel_rfl) Tryd.underlying73
  have hmax : MaxOk W := by
    obtain ⟨m, hm⟩ := Tryd.laysM145.s1_3 W hsh
    have hm2 : W.cell? ⟨0, 0, none⟩ = some (.int .i64 m) := hm
    refine ⟨?_, m, hm2⟩
    rcases Nat.lt_or_ge 0 W.heap.size with h' | h'
    · exact h'
    · simp [World.cell?, Array.getElem?_eq_none h'] at hm2
  refine (walk a0 w0 W ⟨htab, hsyn, hrng⟩ hmax).mono fun e W' ⟨he, hg⟩ => ?_
  subst he
  exact ⟨_, rfl, post_below (pa := []) (pv := []) hW' (fun _ _ _ => (trodAll_cons_mk (shut_bool Tryd.underlying4 _) trodAll_mk0)) (fun sp hsp => (trodAll_cons_mk (shut_string Tryd.underlying9 w0) trodAll_mk0)) (fun _ _ => rfl) rfl
    hg (ok_one (by kernel_rfl) rfl (okWide_bool_mk Tryd.underlying4 _))⟩

set_option maxRecDepth 100000 in
theorem lifted (os : Os) (started : os.Started) (H : Type) (enc : TypeId × Value → H) (F : Stop.Interp) :
    ReturnsInHanded {} Tryd.checked os 5 .any ((OpenSpec.ofChange Rows.fnExactReadPointSpec).preRow enc Tryd.prog Tryd.f5 Rows.fnExactReadPointRow.domain false Rows.fnExactReadPointRow.laid) (((OpenSpec.ofChange Rows.fnExactReadPointSpec).at F).post enc Tryd.prog Tryd.f5 false true false false) := by
  refine returnsInHanded_of_row (C := Tryd.checked) (s := OpenSpec.ofChange Rows.fnExactReadPointSpec) own started (by kernel_rfl) Tryd.func5
    (ChangeSpec.witness_shaped (enc := enc) (C := Tryd.checked) (os := os) (X := fun w _ => laidMetH Tryd.prog Rows.fnExactReadPointRow.laid w) false (World.laidAll Tryd.prog os Rows.fnExactReadPointRow.laid) #[.string ByteArray.empty] 8 (World.laidAll_os _ _ _)
      (World.shaped_of_ZipB (by kernel_rfl) (by kernel_rfl)) (by kernel_rfl) (by kernel_rfl) (by kernel_rfl)
      (by rw [MakeChecks.laidMetH_plain _ _ _ (by kernel_rfl)]; exact laidMet_laidAll _ (by kernel_rfl) (by kernel_rfl))) ?_
  intro W base args ds gs before hval hW _ _ _ hL hsh _
  exact contract H enc W base args ds gs before hval hW hL hsh

theorem said : Rows.FnExactReadPointSaid :=
  OpenClaim.holds_of_cond 5 Tryd.f5 rfl rfl rfl rfl rfl rfl rfl ⟨rfl, rfl, rfl, rfl, rfl⟩ rfl rfl rfl rfl rfl (by kernel_rfl) Tryd.func5 (by kernel_rfl)
    (of_decide_eq_true (by kernel_rfl)) (by unfold Func.isWrapper; first | (rw [if_pos (by decide +kernel)]; kernel_rfl) | (rw [if_neg (by decide +kernel)]; exact ⟨rfl, rfl⟩))
    (fun os started H enc _ F => by rw [OpenClaim.pre_eq_preRow]; exact lifted os started H enc F)

theorem plain (f : FuncId) (fn : Func) (hf : Tryd.pinned.checked.prog.funcNamed Rows.fnExactReadPointRow.func = some f) (hfn : Tryd.pinned.checked.prog.funcs[f]? = some fn) :
    true = Tryd.pinned.checked.prog.looks [] ∧ ∀ (j : Nat) t, fn.params[j]? = some t → Tryd.pinned.checked.prog.wantsStandIn t = false := by
  obtain rfl : f = 5 := Option.some.inj ((show Tryd.prog.funcNamed Rows.fnExactReadPointRow.func = some 5 by kernel_rfl).symm.trans hf) |>.symm
  obtain rfl : fn = Tryd.f5 := (Option.some.inj (Tryd.func5.symm.trans hfn)).symm
  refine ⟨by kernel_rfl, fun j t ht => ?_⟩
  rw [Tryd.params5] at ht
  have hm : t ∈ [9] := by simpa using Array.mem_of_getElem? ht
  have hall : ([9].all fun u => !Tryd.prog.wantsStandIn u) = true := by kernel_rfl
  exact (show Tryd.prog.wantsStandIn t = false by simpa using List.all_eq_true.1 hall t hm)

theorem card : Rows.FnExactReadPointCardSaid :=
  Claim7.holds_tied_plain_at .later [] _ _ _ _ said (fun _ h => by cases h) (by kernel_rfl) (fun _ h => by cases h) fnExactReadPoint_row_tie rfl ⟨rfl, rfl⟩ (by kernel_rfl) rfl plain (by kernel_rfl)
#print axioms card
end Go.Proofs.YtfaahcbdglbcjaaDoor.fnExactReadPoint
