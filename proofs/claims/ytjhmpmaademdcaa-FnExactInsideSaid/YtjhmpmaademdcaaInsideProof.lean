/- FnExactInside returns true at every slice of points and every point, and leaves them as they were. Condition: none. -/
import Derived.Test.YtjhmpmaademdcaaRows
import Derived.Test.YtjhmpmaademdcaaLawSz
import Derived.Test.YtjhmpmaademdcaaIns4
import Derived.Test.YtjhmpmaademdcaaSeq3
import Derived.Test.YtjhmpmaademdcaaAgain
import Derived.Test.YtjhmpmaademdcaaPost
import Derived.WalkKit
import Derived.ProofKit
import Derived.OpenShut
import Derived.ChangeMaps5
namespace Go.Proofs.Ytjhmpmaademdcaa.fnExactInside
open Go.ChangeShapes Go.WideShapes Go.ChangeAt Go.RowKit Go.ChangeMaps
set_option linter.unusedVariables false

theorem own : ownKnob Try.prog.godebug = none := by kernel_rfl

set_option maxRecDepth 100000 in
set_option maxHeartbeats 4000000 in
theorem walk_in (ao0 : Option Addr) (n0 c0 : Nat) (zs0 : List P2) (x1 y1 : Int) (w : World) (hsum : n0 ≤ 1048576) (hv0 : LView w ao0 n0 zs0) :
    Calls Try.prog 3 #[.slice ao0 n0 c0, .agg #[.int .i64 x1, .int .i64 y1]] w fun e w' => e = .returned (.bool true) ∧ Below w.heap.size w w' := by
  have HV0 := Lib.hid hv0
  clear hv0
  go_enter Try.func3, Try.ntmps3
  go_wp2_with fail
  refine (szI_ok ao0 n0 c0 1048576 _ (by omega) (by omega) (by omega)).mono ?_
  rintro e ws0 ⟨rfl, rfl⟩
  have hd0 : decide (((1048576 : Int) - n0) < 0) = false := by simp; omega
  go_wp2
  refine Seq3.wp_region ((w.alloc (.cells #[.int .i64 x1, .int .i64 y1] 24))) [0, 2] [(1, []), (3, []), (4, [5, 6, 7, 8, 9])] (by kernel_rfl) (by kernel_rfl) rfl (Below.refl _ _) (fun w1 hh hb1 => ?_)
  repeat (first | (refine Seq2.fl_row (by decide) ?_) | (refine Seq2.fl_skip (by kernel_rfl) (by kernel_rfl) ?_ ?_; (focus (go_simp; done)); (try simp only [Act.put, List.setIfInBounds_toArray, List.set_cons_zero, List.set_cons_succ])) | (refine Seq2.fl_val (by kernel_rfl) (by kernel_rfl) ?_ ?_; (focus (go_simp; done)); apply Exists.intro; refine ⟨fun w2 hw2 => ?_, ?_⟩; (focus (obtain ⟨hc, hf⟩ := bcell hw2; clear hw2; go_simp; (first | done | with_reducible rfl | (with_reducible exact eql2 _ _ _) | (with_reducible exact neq2 _ _ _)))); (try simp only [Act.put, List.setIfInBounds_toArray, List.set_cons_zero, List.set_cons_succ])))
  refine Seq2.fl_nil ?_
  refine Seq3.c3_one (by kernel_rfl) rfl ?_
  gi_wp2_with fail
  refine ⟨trivial, rfl, (callsIn_wide.2 (toPts_own ao0 n0 c0 zs0 _ (by omega) (HV0.out.below ((one_alloc _).trans (hb1.mono (by simp)))))).mono ?_⟩
  rintro e w2 ⟨b1, rfl, o1, p1, g1⟩
  have HB2 := Lib.hid (hb1.trans (g1.mono hb1.size))
  have P1 := Lib.hid p1
  clear o1 p1 g1 hb1 hh
  gi_wp2
  refine ⟨HB2.out, ?_⟩
  refine Seq3.c3_one (by kernel_rfl) rfl ?_
  gi_wp2_with fail
  refine ⟨trivial, rfl, (callsIn_wide.2 (toPoint_any x1 y1 _)).mono ?_⟩
  rintro e w3 ⟨rfl, g3⟩
  have HB3 := Lib.hid (HB2.out.trans (g3.mono HB2.out.size))
  replace P1 := Lib.hid (P1.out.below g3)
  clear g3
  gi_wp2
  refine ⟨HB3.out, ?_⟩
  refine Seq3.c3_one (by kernel_rfl) rfl ?_
  gi_wp2_with fail
  refine ⟨trivial, rfl, (callsIn_wide.2 (inside_spec _ n0 n0 zs0 x1 y1 _ (by omega) P1.out)).mono ?_⟩
  rintro e w4 ⟨rfl, g4⟩
  have HB4 := Lib.hid (HB3.out.trans (g4.mono HB3.out.size))
  clear g4 P1
  gi_wp2
  refine ⟨HB4.out, ?_⟩
  refine Seq3.mid 5 ?_
  simp only [List.drop_succ_cons, List.drop_zero]
  repeat (first | (refine Seq2.fl_row (by decide) ?_) | (refine Seq2.fl_skip (by kernel_rfl) (by kernel_rfl) ?_ ?_; (focus (go_simp; done)); (try simp only [Act.put, List.setIfInBounds_toArray, List.set_cons_zero, List.set_cons_succ])) | (refine Seq2.fl_val (by kernel_rfl) (by kernel_rfl) ?_ ?_; (focus (go_simp; done)); apply Exists.intro; refine ⟨fun w2 hw2 => ?_, ?_⟩; (focus (obtain ⟨hc, hf⟩ := bcell hw2; clear hw2; go_simp; (first | done | with_reducible rfl | (with_reducible exact eql2 _ _ _) | (with_reducible exact neq2 _ _ _)))); (try simp only [Act.put, List.setIfInBounds_toArray, List.set_cons_zero, List.set_cons_succ])))
  refine Seq2.fl_nil ?_
  refine Seq3.c3_nil (by kernel_rfl) ?_
  have HW := Lib.hid ((one_alloc (w := w) (.cells #[.int .i64 x1, .int .i64 y1] 24)).trans (HB4.out.mono (by simp)))
  go_wp2_with fail
  refine (toPts_own ao0 n0 c0 zs0 _ (by omega) (HV0.out.below HW.out)).mono ?_
  rintro e w5 ⟨b5, rfl, o5, p5, g5⟩
  replace HW := Lib.hid (bseq HW.out g5)
  have HB5 := Lib.hid (HB4.out.trans (g5.mono HB4.out.size))
  have P5 := Lib.hid p5
  clear g5 o5 p5
  have c0 : w5.cell? ⟨w.heap.size, 0, none⟩ = some (.int .i64 x1) := by rw [(bcell HB5.out).1 _ _ (by simp)]; go_simp
  have c1 : w5.cell? ⟨w.heap.size, 1, none⟩ = some (.int .i64 y1) := by rw [(bcell HB5.out).1 _ _ (by simp)]; go_simp
  have hz5 : w.heap.size < w5.heap.size := by have := HB5.out.size; simp at this; omega
  go_wp2_with fail
  refine (toPoint_any x1 y1 _).mono ?_
  rintro e w6 ⟨rfl, g6⟩
  have HB6 := Lib.hid g6
  clear g6
  go_wp2_with fail
  refine (inside_impl _ n0 n0 zs0 x1 y1 _ (by omega) (P5.out.below HB6.out)).mono ?_
  rintro e w7 ⟨rfl, g7⟩
  have HB7 := Lib.hid (bseq HB6.out g7)
  clear g7
  replace HW := Lib.hid (bseq HW.out HB7.out)
  replace P5 := Lib.hid (P5.out.below HB7.out)
  clear c0 c1 hz5
  go_wp2_with fail
  refine (toPts_own ao0 n0 c0 zs0 _ (by omega) (HV0.out.below HW.out)).mono ?_
  rintro e w8 ⟨b8, rfl, o8, p8, g8⟩
  replace HW := Lib.hid (bseq HW.out g8)
  replace P5 := Lib.hid (P5.out.below g8)
  have P8 := Lib.hid p8
  clear g8 o8 p8
  go_wp2_with fail
  refine (eqPts_same _ _ n0 _ _ zs0 _ (by omega) P5.out P8.out).mono ?_
  rintro e w9 ⟨rfl, g9⟩
  replace HW := Lib.hid (bseq HW.out g9)
  clear g9
  go_wp2
  go_ret
  exact ⟨rfl, HW.out⟩
set_option maxRecDepth 100000 in
set_option maxHeartbeats 1000000 in
theorem walk (ao0 : Option Addr) (n0 c0 : Nat) (zs0 : List P2) (x1 y1 : Int) (w : World) (hm0 : n0 ≤ 9223372036854775807) (hv0 : LView w ao0 n0 zs0) (hx1 : (Lit.int .i64 x1).wf = true) (hy1 : (Lit.int .i64 y1).wf = true) :
    Calls Try.prog 3 #[.slice ao0 n0 c0, .agg #[.int .i64 x1, .int .i64 y1]] w fun e w' => e = .returned (.bool true) ∧ Below w.heap.size w w' := by
  by_cases h0 : n0 ≤ 1048576
  rotate_left
  · clear hv0
    go_enter Try.func3, Try.ntmps3
    go_wp2_with fail
    refine (szI_no ao0 n0 c0 1048576 _ (by omega) (by omega) (by omega) hm0).mono ?_
    rintro e wz ⟨rfl, rfl⟩
    go_wp2
    go_ret
    exact ⟨rfl, one_alloc _⟩
  exact walk_in ao0 n0 c0 zs0 x1 y1 w (by omega) hv0

set_option maxRecDepth 100000 in
theorem lifted (os : Os) (started : os.Started) (H : Type) (enc : TypeId × Value → H) :
    ReturnsInHanded {} Try.checked os 3 .any (Rows.fnExactInsideSpec.pre6 enc Try.prog Try.f3 Rows.fnExactInsideRow.domain false) (Rows.fnExactInsideSpec.post enc Try.prog Try.f3 false true false false) := by
  refine returnsInHanded_of_change (C := Try.checked) own started (by kernel_rfl) Try.func3
    (ChangeSpec.witness6 (enc := enc) (C := Try.checked) false ⟨#[], #[.slice none 0 0, .agg #[.int .i64 0, .int .i64 0]], []⟩ 8 (by kernel_rfl) (by kernel_rfl) (by kernel_rfl) (by kernel_rfl)) ?_
  intro W base args ds gs before hval0 hW hcnd _
  have hval : ∀ (j : Nat) t v, Try.f3.params[j]? = some t → args[j]? = some v → Value.okWide Try.prog W .any base t v := hval0
  have hW' := hW
  obtain ⟨p, q, hA0, hV, rfl, hfz, hnd⟩ := hW
  have hA : DataW.TrodAll enc Try.prog W 0 (fun _ => true) true Try.f3.params.toList args.toList ds p := hA0
  rw [Try.params3] at hA hval
  obtain ⟨v0, vs0, d0, ds0, p0, q0, hargs, rfl, rfl, h0, r0⟩ := trodAll_cons hA
  obtain ⟨v1, vs1, d1, ds1, p1, q1, rfl, rfl, rfl, h1, r1⟩ := trodAll_cons r0
  obtain ⟨rfl, rfl, rfl⟩ := trodAll_nil r1
  obtain rfl : args = #[v0, v1] := by cases args; simp_all
  obtain ⟨rfl, rfl⟩ := trodVars_none hV
  clear hA0 hval0
  have l0 : ∀ x ∈ p0, x.block < W.heap.size := fun x hx => hW'.lt x (by simp [hx])
  have l1 : ∀ x ∈ p1, x.block < W.heap.size := fun x hx => hW'.lt x (by simp [hx])
  have e0 := hval 0 22 v0 rfl rfl
  obtain ⟨a0, n0, k0, z0, e0v, m0, lv0⟩ := open_pts e0 h0 l0
  have e1 := hval 1 24 v1 rfl rfl
  obtain ⟨x1, y1, e1v, _, _, wx1, wy1⟩ := open_pt e1 h1
  have hc := walk a0 n0 k0 z0 x1 y1 W m0 lv0 wx1 wy1
  simp only [← e0v, ← e1v] at hc
  refine hc.mono fun e W' ⟨he, hg⟩ => ?_
  subst he
  exact ⟨_, rfl, post_below (pa := (p0 ++ (p1 ++ []))) (pv := []) hW' (fun _ _ _ => (trodAll_cons_mk (shut_bool Try.underlying4 _) trodAll_mk0)) (fun sp hsp => (trodAll_cons_mk (trod_again (by decide) h0 l0 hg sp (fun x hx => hsp x (by simp [hx]))) (trodAll_cons_mk (trod_again (by decide) h1 l1 hg sp (fun x hx => hsp x (by simp [hx]))) trodAll_mk0))) (fun _ _ => rfl) (by simp)
    hg (ok_one (by kernel_rfl) rfl (okWide_bool_mk Try.underlying4 _))⟩

theorem over : Rows.fnExactInsideRow.holds Try.pinned (OpenSpec.ofChange Rows.fnExactInsideSpec) :=
  OpenClaim.holds_of_wide 3 Try.f3 rfl rfl rfl rfl rfl rfl rfl ⟨rfl, rfl, rfl, rfl, rfl⟩ rfl rfl rfl rfl rfl (by kernel_rfl) Try.func3 (by kernel_rfl)
    (of_decide_eq_true (by kernel_rfl)) (by unfold Func.isWrapper; first | (rw [if_pos (by decide +kernel)]; kernel_rfl) | (rw [if_neg (by decide +kernel)]; exact ⟨rfl, rfl⟩))
    (fun os started H enc _ => lifted os started H enc)

theorem proved : Rows.FnExactInsideSaid :=
  over
#print axioms proved
end Go.Proofs.Ytjhmpmaademdcaa.fnExactInside
