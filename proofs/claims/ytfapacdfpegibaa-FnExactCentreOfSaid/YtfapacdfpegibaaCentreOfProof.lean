/- FnExactCentreOf returns true at every slice of points, and leaves them as they were. Condition: none. -/
import Derived.Test.YtfapacdfpegibaaRows
import Derived.Test.YtfapacdfpegibaaPolyArg
import Derived.Test.YtfapacdfpegibaaPolyF7
import Derived.Test.YtfapacdfpegibaaLawAid
import Derived.Test.YtfapacdfpegibaaAgain
import Derived.Test.YtfapacdfpegibaaPost
import Derived.WalkKit
import Derived.ProofKit
import Derived.OpenShut
import Derived.ChangeMaps5
namespace Go.Proofs.Ytfapacdfpegibaa.fnExactCentreOf
open Go.ChangeShapes Go.WideShapes Go.ChangeAt Go.RowKit Go.ChangeMaps
set_option linter.unusedVariables false

theorem own : ownKnob Try.prog.godebug = none := by kernel_rfl

set_option maxRecDepth 100000 in
set_option maxHeartbeats 2000000 in
theorem walk_no (ao : Option Addr) (n c : Nat) (zs : List P2) (w : World) (hn : n ≤ 1048576) (hv : LView w ao n zs) (hpb : polyB zs = false) :
    Calls Try.prog 12 #[.slice ao n c] w fun e w' => e = .returned (.bool true) ∧ Below w.heap.size w w' := by
  have HV := Lib.hid hv
  have HPB := Lib.hid hpb
  clear hv hpb
  go_enter Try.func12, Try.ntmps12
  go_wp2_with fail
  refine (szPt_ok ao n c _ hn).mono ?_
  rintro e wz ⟨rfl, rfl⟩
  go_wp2_with fail
  refine (toPoints_any ao n c zs _ hn HV.out).mono ?_
  rintro e w1 ⟨b1, rfl, _, r1, g1⟩
  have P1 := Lib.hid (pts_PV HV.out.1 (rowIs_pts HV.out.1 r1))
  clear r1
  replace HV := Lib.hid (HV.out.below g1)
  have HW := Lib.hid g1
  clear g1
  go_wp2_with fail
  refine (cenS_no (some ⟨b1, 0, none⟩) n _ zs _ hn P1.out HPB.out).mono ?_
  rintro e w2 ⟨rfl, g2⟩
  replace HV := Lib.hid (HV.out.below g2)
  replace P1 := Lib.hid (P1.out.below g2)
  replace HW := Lib.hid (bseq HW.out g2)
  clear g2
  replace HV := Lib.hid (HV.out.below (one_alloc (w := w2) (.cells #[.int .i64 0, .int .i64 0] 27)))
  replace HW := Lib.hid (bseq HW.out (one_alloc (w := w2) (.cells #[.int .i64 0, .int .i64 0] 27)))
  have K4 := Lib.hid (At.new w2 (.cells #[.int .i64 0, .int .i64 0] 27))
  go_wp2_with fail
  refine (toPoints_any ao n c zs _ hn HV.out).mono ?_
  rintro e w3 ⟨b3, rfl, _, r3, g3⟩
  have P3 := Lib.hid (pts_PV HV.out.1 (rowIs_pts HV.out.1 r3))
  clear r3
  replace HV := Lib.hid (HV.out.below g3)
  replace K4 := Lib.hid (K4.out.below g3)
  replace HW := Lib.hid (bseq HW.out g3)
  clear g3
  go_wp2_with fail
  refine (cenI_no (some ⟨b3, 0, none⟩) n _ zs _ hn P3.out HPB.out).mono ?_
  rintro e w4 ⟨rfl, g4⟩
  replace HV := Lib.hid (HV.out.below g4)
  replace K4 := Lib.hid (K4.out.below g4)
  replace P3 := Lib.hid (P3.out.below g4)
  replace HW := Lib.hid (bseq HW.out g4)
  clear g4
  replace HV := Lib.hid (HV.out.below (one_alloc (w := w4) (.cells #[.int .i64 0, .int .i64 0] 27)))
  replace K4 := Lib.hid (K4.out.below (one_alloc (w := w4) (.cells #[.int .i64 0, .int .i64 0] 27)))
  replace P3 := Lib.hid (P3.out.below (one_alloc (w := w4) (.cells #[.int .i64 0, .int .i64 0] 27)))
  replace HW := Lib.hid (bseq HW.out (one_alloc (w := w4) (.cells #[.int .i64 0, .int .i64 0] 27)))
  have K7 := Lib.hid (At.new w4 (.cells #[.int .i64 0, .int .i64 0] 27))
  obtain ⟨q0, _, q1, _⟩ := cells2_of K7.out
  (try simp only [World.size_alloc] at q0 q1)
  obtain ⟨q2, _, q3, _⟩ := cells2_of K4.out
  (try simp only [World.size_alloc] at q2 q3)
  go_wp2_with fail
  refine (eqPt_same _ _ _).mono ?_
  rintro e w5 ⟨rfl, g5⟩
  replace HV := Lib.hid (HV.out.below g5)
  replace K4 := Lib.hid (K4.out.below g5)
  replace P3 := Lib.hid (P3.out.below g5)
  replace K7 := Lib.hid (K7.out.below g5)
  replace HW := Lib.hid (bseq HW.out g5)
  clear g5
  clear q0 q1 q2 q3
  go_wp2_with fail
  refine (toPoints_any ao n c zs _ hn HV.out).mono ?_
  rintro e w6 ⟨b6, rfl, _, r6, g6⟩
  have P6 := Lib.hid (pts_PV HV.out.1 (rowIs_pts HV.out.1 r6))
  clear r6
  replace HV := Lib.hid (HV.out.below g6)
  replace P3 := Lib.hid (P3.out.below g6)
  replace HW := Lib.hid (bseq HW.out g6)
  clear g6
  go_wp2_with fail
  refine (eqPts_same _ _ n _ _ zs _ hn P3.out P6.out).mono ?_
  rintro e w7 ⟨rfl, g7⟩
  replace HV := Lib.hid (HV.out.below g7)
  replace P3 := Lib.hid (P3.out.below g7)
  replace P6 := Lib.hid (P6.out.below g7)
  replace HW := Lib.hid (bseq HW.out g7)
  clear g7
  go_wp2
  go_ret
  exact ⟨rfl, HW.out⟩
set_option maxRecDepth 100000 in
set_option maxHeartbeats 2000000 in
theorem walk_yes (ao : Option Addr) (n c : Nat) (zs : List P2) (w : World) (hn : n ≤ 1048576) (hv : LView w ao n zs) (hpb : polyB zs = true) :
    Calls Try.prog 12 #[.slice ao n c] w fun e w' => e = .returned (.bool true) ∧ Below w.heap.size w w' := by
  have HV := Lib.hid hv
  have HPB := Lib.hid hpb
  clear hv hpb
  go_enter Try.func12, Try.ntmps12
  go_wp2_with fail
  refine (szPt_ok ao n c _ hn).mono ?_
  rintro e wz ⟨rfl, rfl⟩
  go_wp2_with fail
  refine (toPoints_any ao n c zs _ hn HV.out).mono ?_
  rintro e w1 ⟨b1, rfl, _, r1, g1⟩
  have P1 := Lib.hid (pts_PV HV.out.1 (rowIs_pts HV.out.1 r1))
  clear r1
  replace HV := Lib.hid (HV.out.below g1)
  have HW := Lib.hid g1
  clear g1
  go_wp2_with fail
  refine (cenS_yes (some ⟨b1, 0, none⟩) n _ zs _ hn P1.out HPB.out).mono ?_
  rintro e w2 ⟨rfl, g2⟩
  replace HV := Lib.hid (HV.out.below g2)
  replace P1 := Lib.hid (P1.out.below g2)
  replace HW := Lib.hid (bseq HW.out g2)
  clear g2
  replace HV := Lib.hid (HV.out.below (one_alloc (w := w2) (.cells #[.int .i64 (cenX zs), .int .i64 (cenY zs)] 27)))
  replace HW := Lib.hid (bseq HW.out (one_alloc (w := w2) (.cells #[.int .i64 (cenX zs), .int .i64 (cenY zs)] 27)))
  have K4 := Lib.hid (At.new w2 (.cells #[.int .i64 (cenX zs), .int .i64 (cenY zs)] 27))
  go_wp2_with fail
  refine (toPoints_any ao n c zs _ hn HV.out).mono ?_
  rintro e w3 ⟨b3, rfl, _, r3, g3⟩
  have P3 := Lib.hid (pts_PV HV.out.1 (rowIs_pts HV.out.1 r3))
  clear r3
  replace HV := Lib.hid (HV.out.below g3)
  replace K4 := Lib.hid (K4.out.below g3)
  replace HW := Lib.hid (bseq HW.out g3)
  clear g3
  go_wp2_with fail
  refine (cenI_yes (some ⟨b3, 0, none⟩) n _ zs _ hn P3.out HPB.out).mono ?_
  rintro e w4 ⟨rfl, g4⟩
  replace HV := Lib.hid (HV.out.below g4)
  replace K4 := Lib.hid (K4.out.below g4)
  replace P3 := Lib.hid (P3.out.below g4)
  replace HW := Lib.hid (bseq HW.out g4)
  clear g4
  replace HV := Lib.hid (HV.out.below (one_alloc (w := w4) (.cells #[.int .i64 (cenX zs), .int .i64 (cenY zs)] 27)))
  replace K4 := Lib.hid (K4.out.below (one_alloc (w := w4) (.cells #[.int .i64 (cenX zs), .int .i64 (cenY zs)] 27)))
  replace P3 := Lib.hid (P3.out.below (one_alloc (w := w4) (.cells #[.int .i64 (cenX zs), .int .i64 (cenY zs)] 27)))
  replace HW := Lib.hid (bseq HW.out (one_alloc (w := w4) (.cells #[.int .i64 (cenX zs), .int .i64 (cenY zs)] 27)))
  have K7 := Lib.hid (At.new w4 (.cells #[.int .i64 (cenX zs), .int .i64 (cenY zs)] 27))
  obtain ⟨q0, _, q1, _⟩ := cells2_of K7.out
  (try simp only [World.size_alloc] at q0 q1)
  obtain ⟨q2, _, q3, _⟩ := cells2_of K4.out
  (try simp only [World.size_alloc] at q2 q3)
  go_wp2_with fail
  refine (eqPt_same _ _ _).mono ?_
  rintro e w5 ⟨rfl, g5⟩
  replace HV := Lib.hid (HV.out.below g5)
  replace K4 := Lib.hid (K4.out.below g5)
  replace P3 := Lib.hid (P3.out.below g5)
  replace K7 := Lib.hid (K7.out.below g5)
  replace HW := Lib.hid (bseq HW.out g5)
  clear g5
  clear q0 q1 q2 q3
  go_wp2_with fail
  refine (toPoints_any ao n c zs _ hn HV.out).mono ?_
  rintro e w6 ⟨b6, rfl, _, r6, g6⟩
  have P6 := Lib.hid (pts_PV HV.out.1 (rowIs_pts HV.out.1 r6))
  clear r6
  replace HV := Lib.hid (HV.out.below g6)
  replace P3 := Lib.hid (P3.out.below g6)
  replace HW := Lib.hid (bseq HW.out g6)
  clear g6
  go_wp2_with fail
  refine (eqPts_same _ _ n _ _ zs _ hn P3.out P6.out).mono ?_
  rintro e w7 ⟨rfl, g7⟩
  replace HV := Lib.hid (HV.out.below g7)
  replace P3 := Lib.hid (P3.out.below g7)
  replace P6 := Lib.hid (P6.out.below g7)
  replace HW := Lib.hid (bseq HW.out g7)
  clear g7
  go_wp2
  go_ret
  exact ⟨rfl, HW.out⟩
theorem walk (ao : Option Addr) (n c : Nat) (zs : List P2) (w : World) (hm : n ≤ 9223372036854775807) (hv : LView w ao n zs) :
    Calls Try.prog 12 #[.slice ao n c] w fun e w' => e = .returned (.bool true) ∧ Below w.heap.size w w' := by
  by_cases hn : n ≤ 1048576
  · cases hpb : polyB zs
    · exact walk_no ao n c zs w hn hv hpb
    · exact walk_yes ao n c zs w hn hv hpb
  · clear hv
    go_enter Try.func12, Try.ntmps12
    go_wp2_with fail
    refine (szPt_no ao n c _ (by omega) hm).mono ?_
    rintro e w1 ⟨rfl, rfl⟩
    go_wp2
    go_ret
    exact ⟨rfl, Below.refl _ _⟩

set_option maxRecDepth 100000 in
theorem lifted (os : Os) (started : os.Started) (H : Type) (enc : TypeId × Value → H) :
    ReturnsInHanded {} Try.checked os 12 .any (Rows.fnExactCentreOfSpec.pre6 enc Try.prog Try.f12 Rows.fnExactCentreOfRow.domain false) (Rows.fnExactCentreOfSpec.post enc Try.prog Try.f12 false true false false) := by
  refine returnsInHanded_of_change (C := Try.checked) own started (by kernel_rfl) Try.func12
    (ChangeSpec.witness6 (enc := enc) (C := Try.checked) false ⟨#[], #[.slice none 0 0], []⟩ 8 (by kernel_rfl) (by kernel_rfl) (by kernel_rfl) (by kernel_rfl)) ?_
  intro W base args ds gs before hval0 hW hcnd _
  have hval : ∀ (j : Nat) t v, Try.f12.params[j]? = some t → args[j]? = some v → Value.okWide Try.prog W .any base t v := hval0
  have hW' := hW
  obtain ⟨p, q, hA0, hV, rfl, hfz, hnd⟩ := hW
  have hA : DataW.TrodAll enc Try.prog W 0 (fun _ => true) true Try.f12.params.toList args.toList ds p := hA0
  rw [Try.params12] at hA hval
  obtain ⟨v0, vs0, d0, ds0, p0, q0, hargs, rfl, rfl, h0, r0⟩ := trodAll_cons hA
  obtain ⟨rfl, rfl, rfl⟩ := trodAll_nil r0
  obtain rfl : args = #[v0] := by cases args; simp_all
  obtain ⟨rfl, rfl⟩ := trodVars_none hV
  clear hA0 hval0
  have l0 : ∀ x ∈ p0, x.block < W.heap.size := fun x hx => hW'.lt x (by simp [hx])
  have e0 := hval 0 47 v0 rfl rfl
  obtain ⟨a0, n0, k0, z0, e0v, m0, lv0⟩ := open_pts e0 h0 l0
  have hc := walk a0 n0 k0 z0 W m0 lv0
  simp only [← e0v] at hc
  refine hc.mono fun e W' ⟨he, hg⟩ => ?_
  subst he
  exact ⟨_, rfl, post_below (pa := (p0 ++ [])) (pv := []) hW' (fun _ _ _ => (trodAll_cons_mk (shut_bool Try.underlying4 _) trodAll_mk0)) (fun sp hsp => (trodAll_cons_mk (trod_again (by decide) h0 l0 hg sp (fun x hx => hsp x (by simp [hx]))) trodAll_mk0)) (fun _ _ => rfl) (by simp)
    hg (ok_one (by kernel_rfl) rfl (okWide_bool_mk Try.underlying4 _))⟩

theorem over : Rows.fnExactCentreOfRow.holds Try.pinned (OpenSpec.ofChange Rows.fnExactCentreOfSpec) :=
  OpenClaim.holds_of_wide 12 Try.f12 rfl rfl rfl rfl rfl rfl rfl ⟨rfl, rfl, rfl, rfl, rfl⟩ rfl rfl rfl rfl rfl (by kernel_rfl) Try.func12 (by kernel_rfl)
    (of_decide_eq_true (by kernel_rfl)) (by unfold Func.isWrapper; first | (rw [if_pos (by decide +kernel)]; kernel_rfl) | (rw [if_neg (by decide +kernel)]; exact ⟨rfl, rfl⟩))
    (fun os started H enc _ => lifted os started H enc)

theorem proved : Rows.FnExactCentreOfSaid :=
  over
#print axioms proved
end Go.Proofs.Ytfapacdfpegibaa.fnExactCentreOf
