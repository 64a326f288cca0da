/- FnExactTurned returns true at every point and every int64 number, and leaves them as they were. Condition: none. -/
import Derived.Test.YtfaahcbdglbcjaaRows
import Derived.Test.YtfaahcbdglbcjaaTurnExp
import Derived.Test.YtfaahcbdglbcjaaPtArg
import Derived.Test.YtfaahcbdglbcjaaPost
import Derived.WalkKit
import Derived.ProofKit
import Derived.OpenShut
import Derived.ChangeMaps5
namespace Go.Proofs.Ytfaahcbdglbcjaa.fnExactTurned
open Go.ChangeShapes Go.WideShapes Go.ChangeAt Go.RowKit Go.ChangeMaps
set_option linter.unusedVariables false

theorem own : ownKnob Try.prog.godebug = none := by kernel_rfl

set_option maxHeartbeats 1000000 in
theorem walk_no (x y t : Int) (w : World) (hv : (inI t 0 7 && inI x (-20000) 20000 && inI y (-20000) 20000) = false) :
    Calls Try.prog 13 #[.agg #[.int .i64 x, .int .i64 y], .int .i64 t] w fun e w' => e = .returned (.bool true) ∧ Below w.heap.size w w' := by
  have HV := Lib.hid hv
  clear hv
  go_enter Try.func13, Try.ntmps13
  go_wp2_with fail
  refine (toPoint_any _ _ _).mono ?_
  rintro e w1 ⟨rfl, g1⟩
  obtain ⟨k1, q1⟩ := bcell g1
  have HW1 := Lib.hid g1
  clear g1
  go_wp2_with fail
  refine (turnedS_no _ _ _ _ HV.out).mono ?_
  rintro e w2 ⟨rfl, g2⟩
  obtain ⟨k2, q2⟩ := bcell (bseq HW1.out g2)
  have HW2 := Lib.hid (bseq HW1.out g2)
  clear g2 k1 q1
  have n0 : w.heap.size < w2.heap.size := by have := HW2.out.size; simp at this; omega
  go_wp2_with fail
  refine (toPoint_any _ _ _).mono ?_
  rintro e w3 ⟨rfl, g3⟩
  have HW3 := Lib.hid g3
  obtain ⟨k3, q3⟩ := bcell g3
  have n1 : w2.heap.size < w3.heap.size := by have := g3.size; simp at this; omega
  clear g3 k2 q2
  go_wp2_with fail
  refine (turnedI_no _ _ _ _ HV.out).mono ?_
  rintro e w4 ⟨rfl, g4⟩
  have HW4 := Lib.hid (bseq HW3.out g4)
  obtain ⟨k4, q4⟩ := bcell (bseq HW3.out g4)
  have n2 : w2.heap.size < w4.heap.size := by have := g4.size; omega
  clear g4 k3 q3
  go_wp2_with fail
  refine (eqPoint_yes _ _ _).mono ?_
  rintro e w5 ⟨rfl, g5⟩
  have HW5 := Lib.hid g5
  clear g5 k4 q4
  go_wp2
  go_ret
  exact ⟨rfl, bseq ((bseq ((bseq (one_alloc _) HW2.out).alloc (bseq (one_alloc _) HW2.out).size _) HW4.out).alloc (bseq ((bseq (one_alloc _) HW2.out).alloc (bseq (one_alloc _) HW2.out).size _) HW4.out).size _) HW5.out⟩
set_option maxHeartbeats 1000000 in
theorem walk_yes (x y t : Int) (w : World) (h0 : inI t 0 7 = true) (h1 : inI x (-20000) 20000 = true) (h2 : inI y (-20000) 20000 = true) :
    Calls Try.prog 13 #[.agg #[.int .i64 x, .int .i64 y], .int .i64 t] w fun e w' => e = .returned (.bool true) ∧ Below w.heap.size w w' := by
  have H0 := Lib.hid h0
  have H1 := Lib.hid h1
  have H2 := Lib.hid h2
  clear h0 h1 h2
  go_enter Try.func13, Try.ntmps13
  go_wp2_with fail
  refine (toPoint_any _ _ _).mono ?_
  rintro e w1 ⟨rfl, g1⟩
  obtain ⟨k1, q1⟩ := bcell g1
  have HW1 := Lib.hid g1
  clear g1
  go_wp2_with fail
  refine (turnedS_yes _ _ _ _ H0.out H1.out H2.out).mono ?_
  rintro e w2 ⟨rfl, g2⟩
  obtain ⟨k2, q2⟩ := bcell (bseq HW1.out g2)
  have HW2 := Lib.hid (bseq HW1.out g2)
  clear g2 k1 q1
  have n0 : w.heap.size < w2.heap.size := by have := HW2.out.size; simp at this; omega
  go_wp2_with fail
  refine (toPoint_any _ _ _).mono ?_
  rintro e w3 ⟨rfl, g3⟩
  have HW3 := Lib.hid g3
  obtain ⟨k3, q3⟩ := bcell g3
  have n1 : w2.heap.size < w3.heap.size := by have := g3.size; simp at this; omega
  clear g3 k2 q2
  go_wp2_with fail
  refine (turnedI_yes _ _ _ _ H0.out H1.out H2.out).mono ?_
  rintro e w4 ⟨rfl, g4⟩
  have HW4 := Lib.hid (bseq HW3.out g4)
  obtain ⟨k4, q4⟩ := bcell (bseq HW3.out g4)
  have n2 : w2.heap.size < w4.heap.size := by have := g4.size; omega
  clear g4 k3 q3
  go_wp2_with fail
  refine (eqPoint_yes _ _ _).mono ?_
  rintro e w5 ⟨rfl, g5⟩
  have HW5 := Lib.hid g5
  clear g5 k4 q4
  go_wp2
  go_ret
  exact ⟨rfl, bseq ((bseq ((bseq (one_alloc _) HW2.out).alloc (bseq (one_alloc _) HW2.out).size _) HW4.out).alloc (bseq ((bseq (one_alloc _) HW2.out).alloc (bseq (one_alloc _) HW2.out).size _) HW4.out).size _) HW5.out⟩
theorem walk (x y t : Int) (wx : (Lit.int .i64 x).wf = true) (wy : (Lit.int .i64 y).wf = true) (wt : (Lit.int .i64 t).wf = true) (w : World) :
    Calls Try.prog 13 #[.agg #[.int .i64 x, .int .i64 y], .int .i64 t] w fun e w' => e = .returned (.bool true) ∧ Below w.heap.size w w' := by
  cases hv : (inI t 0 7 && inI x (-20000) 20000 && inI y (-20000) 20000)
  · exact walk_no _ _ _ w hv
  · simp only [Bool.and_eq_true] at hv
    exact walk_yes _ _ _ w hv.1.1 hv.1.2 hv.2

set_option maxRecDepth 100000 in
theorem lifted (os : Os) (started : os.Started) (H : Type) (enc : TypeId × Value → H) :
    ReturnsInHanded {} Try.checked os 13 .any (Rows.fnExactTurnedSpec.pre6 enc Try.prog Try.f13 Rows.fnExactTurnedRow.domain false) (Rows.fnExactTurnedSpec.post enc Try.prog Try.f13 false true false false) := by
  refine returnsInHanded_of_change (C := Try.checked) own started (by kernel_rfl) Try.func13
    (ChangeSpec.witness6 (enc := enc) (C := Try.checked) false ⟨#[], #[.agg #[.int .i64 0, .int .i64 0], .int .i64 0], []⟩ 8 (by kernel_rfl) (by kernel_rfl) (by kernel_rfl) (by kernel_rfl)) ?_
  intro W base args ds gs before hval0 hW hcnd _
  have hval : ∀ (j : Nat) t v, Try.f13.params[j]? = some t → args[j]? = some v → Value.okWide Try.prog W .any base t v := hval0
  have hW' := hW
  obtain ⟨p, q, hA0, hV, rfl, hfz, hnd⟩ := hW
  have hA : DataW.TrodAll enc Try.prog W 0 (fun _ => true) true Try.f13.params.toList args.toList ds p := hA0
  rw [Try.params13] at hA hval
  obtain ⟨v0, vs0, d0, ds0, p0, q0, hargs, rfl, rfl, h0, r0⟩ := trodAll_cons hA
  obtain ⟨v1, vs1, d1, ds1, p1, q1, rfl, rfl, rfl, h1, r1⟩ := trodAll_cons r0
  obtain ⟨rfl, rfl, rfl⟩ := trodAll_nil r1
  obtain rfl : args = #[v0, v1] := by cases args; simp_all
  obtain ⟨rfl, rfl⟩ := trodVars_none hV
  obtain ⟨x0, y0, rfl, rfl, rfl, wx0, wy0⟩ := open_pt (hval 0 35 v0 rfl rfl) h0
  obtain ⟨a1, rfl, rfl, rfl, w1⟩ := open_int Try.underlying2 (hval 1 2 v1 rfl rfl) h1
  clear hA0 hval0
  simp only [List.append_nil] at hW'
  refine (walk x0 y0 a1 wx0 wy0 w1 W).mono fun e W' ⟨he, hg⟩ => ?_
  subst he
  exact ⟨_, rfl, post_below (pa := []) (pv := []) hW' (fun _ _ _ => (trodAll_cons_mk (shut_bool Try.underlying4 _) trodAll_mk0)) (fun sp hsp => (trodAll_cons_mk (shut_pt wx0 wy0) (trodAll_cons_mk (shut_int Try.underlying2 w1) trodAll_mk0))) (fun _ _ => rfl) rfl
    hg (ok_one (by kernel_rfl) rfl (okWide_bool_mk Try.underlying4 _))⟩

theorem over : Rows.fnExactTurnedRow.holds Try.pinned (OpenSpec.ofChange Rows.fnExactTurnedSpec) :=
  OpenClaim.holds_of_wide 13 Try.f13 rfl rfl rfl rfl rfl rfl rfl ⟨rfl, rfl, rfl, rfl, rfl⟩ rfl rfl rfl rfl rfl (by kernel_rfl) Try.func13 (by kernel_rfl)
    (of_decide_eq_true (by kernel_rfl)) (by unfold Func.isWrapper; first | (rw [if_pos (by decide +kernel)]; kernel_rfl) | (rw [if_neg (by decide +kernel)]; exact ⟨rfl, rfl⟩))
    (fun os started H enc _ => lifted os started H enc)

theorem proved : Rows.FnExactTurnedSaid :=
  over
#print axioms proved
end Go.Proofs.Ytfaahcbdglbcjaa.fnExactTurned
