/- FnExactValidPoint returns true at every point, and leaves it as it was. Condition: none. -/
import Derived.Test.YtfaahcbdglbcjaaRows
import Derived.Test.YtfaahcbdglbcjaaSegSpec
import Derived.Test.YtfaahcbdglbcjaaPtArg
import Derived.Test.YtfaahcbdglbcjaaPost
import Derived.WalkKit
import Derived.ProofKit
import Derived.OpenShut
import Derived.ChangeMaps5
namespace Go.Proofs.Ytfaahcbdglbcjaa.fnExactValidPoint
open Go.ChangeShapes Go.WideShapes Go.ChangeAt Go.RowKit Go.ChangeMaps
set_option linter.unusedVariables false

theorem own : ownKnob Try.prog.godebug = none := by kernel_rfl

theorem walk (x y : Int) (wx : (Lit.int .i64 x).wf = true) (wy : (Lit.int .i64 y).wf = true) (w : World) :
    Calls Try.prog 4 #[.agg #[.int .i64 x, .int .i64 y]] w fun e w' => e = .returned (.bool true) ∧ Below w.heap.size w w' := by
  go_enter Try.func4, Try.ntmps4
  go_wp2_with fail
  refine (toPoint_any _ _ _).mono ?_
  rintro e w1 ⟨rfl, g1⟩
  obtain ⟨k1, q1⟩ := bcell g1
  have HW1 := Lib.hid g1
  clear g1
  go_wp2_with fail
  refine (valid_spec _ _ _).mono ?_
  rintro e w2 ⟨rfl, g2⟩
  obtain ⟨k2, q2⟩ := bcell (bseq HW1.out g2)
  have HW2 := Lib.hid (bseq HW1.out g2)
  clear g2 k1 q1
  go_wp2_with fail
  refine (toPoint_any _ _ _).mono ?_
  rintro e w3 ⟨rfl, g3⟩
  obtain ⟨k3, q3⟩ := bcell (bseq HW2.out g3)
  have HW3 := Lib.hid (bseq HW2.out g3)
  clear g3 k2 q2
  go_wp2_with fail
  refine (valid_impl _ _ _).mono ?_
  rintro e w4 ⟨rfl, g4⟩
  obtain ⟨k4, q4⟩ := bcell (bseq HW3.out g4)
  have HW4 := Lib.hid (bseq HW3.out g4)
  clear g4 k3 q3
  clear k4 q4
  go_wp2
  go_ret
  exact ⟨rfl, bseq (one_alloc _) HW4.out⟩

set_option maxRecDepth 100000 in
theorem lifted (os : Os) (started : os.Started) (H : Type) (enc : TypeId × Value → H) :
    ReturnsInHanded {} Try.checked os 4 .any (Rows.fnExactValidPointSpec.pre6 enc Try.prog Try.f4 Rows.fnExactValidPointRow.domain false) (Rows.fnExactValidPointSpec.post enc Try.prog Try.f4 false true false false) := by
  refine returnsInHanded_of_change (C := Try.checked) own started (by kernel_rfl) Try.func4
    (ChangeSpec.witness6 (enc := enc) (C := Try.checked) false ⟨#[], #[.agg #[.int .i64 0, .int .i64 0]], []⟩ 8 (by kernel_rfl) (by kernel_rfl) (by kernel_rfl) (by kernel_rfl)) ?_
  intro W base args ds gs before hval0 hW hcnd _
  have hval : ∀ (j : Nat) t v, Try.f4.params[j]? = some t → args[j]? = some v → Value.okWide Try.prog W .any base t v := hval0
  have hW' := hW
  obtain ⟨p, q, hA0, hV, rfl, hfz, hnd⟩ := hW
  have hA : DataW.TrodAll enc Try.prog W 0 (fun _ => true) true Try.f4.params.toList args.toList ds p := hA0
  rw [Try.params4] at hA hval
  obtain ⟨v0, vs0, d0, ds0, p0, q0, hargs, rfl, rfl, h0, r0⟩ := trodAll_cons hA
  obtain ⟨rfl, rfl, rfl⟩ := trodAll_nil r0
  obtain rfl : args = #[v0] := by cases args; simp_all
  obtain ⟨rfl, rfl⟩ := trodVars_none hV
  obtain ⟨x0, y0, rfl, rfl, rfl, wx0, wy0⟩ := open_pt (hval 0 35 v0 rfl rfl) h0
  clear hA0 hval0
  simp only [List.append_nil] at hW'
  refine (walk x0 y0 wx0 wy0 W).mono fun e W' ⟨he, hg⟩ => ?_
  subst he
  exact ⟨_, rfl, post_below (pa := []) (pv := []) hW' (fun _ _ _ => (trodAll_cons_mk (shut_bool Try.underlying4 _) trodAll_mk0)) (fun sp hsp => (trodAll_cons_mk (shut_pt wx0 wy0) trodAll_mk0)) (fun _ _ => rfl) rfl
    hg (ok_one (by kernel_rfl) rfl (okWide_bool_mk Try.underlying4 _))⟩

theorem over : Rows.fnExactValidPointRow.holds Try.pinned (OpenSpec.ofChange Rows.fnExactValidPointSpec) :=
  OpenClaim.holds_of_wide 4 Try.f4 rfl rfl rfl rfl rfl rfl rfl ⟨rfl, rfl, rfl, rfl, rfl⟩ rfl rfl rfl rfl rfl (by kernel_rfl) Try.func4 (by kernel_rfl)
    (of_decide_eq_true (by kernel_rfl)) (by unfold Func.isWrapper; first | (rw [if_pos (by decide +kernel)]; kernel_rfl) | (rw [if_neg (by decide +kernel)]; exact ⟨rfl, rfl⟩))
    (fun os started H enc _ => lifted os started H enc)

theorem proved : Rows.FnExactValidPointSaid :=
  over
#print axioms proved
end Go.Proofs.Ytfaahcbdglbcjaa.fnExactValidPoint
