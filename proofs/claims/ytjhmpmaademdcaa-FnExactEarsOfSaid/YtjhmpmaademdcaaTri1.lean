/- Points in triangles: in spec and in impl. -/
import Derived.Test.YtjhmpmaademdcaaSegExp1
import Derived.Test.YtjhmpmaademdcaaK3
namespace Go.Proofs.Ytjhmpmaademdcaa
open Go.ChangeShapes Go.WideShapes Go.ChangeAt Go.RowKit
set_option linter.unusedVariables false
set_option linter.unusedSimpArgs false

def inT (xa ya xb yb xc yc xq yq : Int) : Bool := decide (0 ≤ sdI xa ya xb yb xq yq) && decide (0 ≤ sdI xb yb xc yc xq yq) && decide (0 ≤ sdI xc yc xa ya xq yq)
/-- A point in a triangle, which goes around to the left or to the right. -/
def triB (xa ya xb yb xc yc xq yq : Int) : Bool := if 0 < sdI xa ya xb yb xc yc then inT xa ya xb yb xc yc xq yq else decide (sdI xa ya xb yb xc yc < 0) && inT xa ya xc yc xb yb xq yq
set_option maxRecDepth 100000 in
set_option maxHeartbeats 1000000 in
theorem inT_spec (xa ya xb yb xc yc xq yq : Int) (w : World) (ha : okI xa ya = true) (hb : okI xb yb = true) (hc : okI xc yc = true) (hq : okI xq yq = true) :
    Calls Try.prog 82 #[.agg #[.int .i64 xa, .int .i64 ya], .agg #[.int .i64 xb, .int .i64 yb], .agg #[.int .i64 xc, .int .i64 yc], .agg #[.int .i64 xq, .int .i64 yq]] w fun e w' => e = .returned (.bool (inT xa ya xb yb xc yc xq yq)) ∧ Below w.heap.size w w' := by
  have HT := Lib.hid (show inT xa ya xb yb xc yc xq yq = (decide (0 ≤ sdI xa ya xb yb xq yq) && decide (0 ≤ sdI xb yb xc yc xq yq) && decide (0 ≤ sdI xc yc xa ya xq yq)) from rfl)
  have S1 := fun w => side_spec xa ya xb yb xq yq w ha hb hq
  have S2 := fun w => side_spec xb yb xc yc xq yq w hb hc hq
  have S3 := fun w => side_spec xc yc xa ya xq yq w hc ha hq
  generalize inT xa ya xb yb xc yc xq yq = r at *
  generalize sdI xa ya xb yb xq yq = s1 at *
  generalize sdI xb yb xc yc xq yq = s2 at *
  generalize sdI xc yc xa ya xq yq = s3 at *
  clear ha hb hc hq
  have T1 := Lib.hid S1
  have T2 := Lib.hid S2
  have T3 := Lib.hid S3
  clear S1 S2 S3
  by_cases h1 : 0 ≤ s1
  · by_cases h2 : 0 ≤ s2
    · go_enter Try.func82, Try.ntmps82
      go_wp2_with fail
      refine (T1.out _).mono ?_
      rintro e w1 ⟨rfl, g1⟩
      have HG1 := Lib.hid g1
      obtain ⟨k1, q1⟩ := bcell g1
      clear g1
      go_wp2_with fail
      refine (T2.out _).mono ?_
      rintro e w2 ⟨rfl, g2⟩
      have HG2 := Lib.hid (bseq HG1.out g2)
      obtain ⟨k2, q2⟩ := bcell (bseq HG1.out g2)
      clear g2 k1 q1
      go_wp2_with fail
      refine (T3.out _).mono ?_
      rintro e w3 ⟨rfl, g3⟩
      have HG3 := Lib.hid (bseq HG2.out g3)
      clear g3 k2 q2
      go_wp2
      go_ret
      exact ⟨ret_bool' (by rw [HT.out]; simp [h1, h2] <;> omega), bseq (four_allocs _ _ _ _) HG3.out⟩
    · go_enter Try.func82, Try.ntmps82
      go_wp2_with fail
      refine (T1.out _).mono ?_
      rintro e w1 ⟨rfl, g1⟩
      have HG1 := Lib.hid g1
      obtain ⟨k1, q1⟩ := bcell g1
      clear g1
      go_wp2_with fail
      refine (T2.out _).mono ?_
      rintro e w2 ⟨rfl, g2⟩
      have HG2 := Lib.hid (bseq HG1.out g2)
      clear g2 k1 q1
      go_wp2
      go_ret
      exact ⟨ret_bool' (by rw [HT.out]; simp [h1, h2] <;> omega), bseq (four_allocs _ _ _ _) HG2.out⟩
  · go_enter Try.func82, Try.ntmps82
    go_wp2_with fail
    refine (T1.out _).mono ?_
    rintro e w1 ⟨rfl, g1⟩
    have HG1 := Lib.hid g1
    clear g1
    go_wp2
    go_ret
    exact ⟨ret_bool' (by rw [HT.out]; simp [h1] <;> omega), bseq (four_allocs _ _ _ _) HG1.out⟩
set_option maxRecDepth 100000 in
set_option maxHeartbeats 1000000 in
theorem tri_spec_no (xa ya xb yb xc yc xq yq : Int) (w : World) (hv : (okI xa ya && okI xb yb && okI xc yc && okI xq yq) = false) :
    Calls Try.prog 22 #[.agg #[.int .i64 xa, .int .i64 ya], .agg #[.int .i64 xb, .int .i64 yb], .agg #[.int .i64 xc, .int .i64 yc], .agg #[.int .i64 xq, .int .i64 yq]] w fun e w' => e = .returned (.bool false) ∧ Below w.heap.size w w' := by
  have HV := Lib.hid (show ok4 xa ya xb yb xc yc xq yq = false by rw [ok4_4]; exact hv)
  clear hv
  go_enter Try.func22, Try.ntmps22
  go_wp2_with fail
  refine (four_no xa ya xb yb xc yc xq yq _ HV.out).mono ?_
  rintro e w1 ⟨rfl, g1⟩
  have HG1 := Lib.hid g1
  clear g1
  go_wp2
  go_ret
  exact ⟨rfl, bseq (four_allocs _ _ _ _) HG1.out⟩
set_option maxRecDepth 100000 in
set_option maxHeartbeats 1000000 in
theorem tri_spec_yes (xa ya xb yb xc yc xq yq : Int) (w : World) (ha : okI xa ya = true) (hb : okI xb yb = true) (hc : okI xc yc = true) (hq : okI xq yq = true) :
    Calls Try.prog 22 #[.agg #[.int .i64 xa, .int .i64 ya], .agg #[.int .i64 xb, .int .i64 yb], .agg #[.int .i64 xc, .int .i64 yc], .agg #[.int .i64 xq, .int .i64 yq]] w fun e w' => e = .returned (.bool (triB xa ya xb yb xc yc xq yq)) ∧ Below w.heap.size w w' := by
  have hv := v4_of xa ya xb yb xc yc xq yq ha hb hc hq
  have HV := Lib.hid (show ok4 xa ya xb yb xc yc xq yq = true by rw [ok4_4]; exact hv)
  clear hv
  have HT := Lib.hid (show triB xa ya xb yb xc yc xq yq = if 0 < sdI xa ya xb yb xc yc then inT xa ya xb yb xc yc xq yq else decide (sdI xa ya xb yb xc yc < 0) && inT xa ya xc yc xb yb xq yq from rfl)
  have T1 := Lib.hid fun w => side_spec xa ya xb yb xc yc w ha hb hc
  have T2 := Lib.hid fun w => inT_spec xa ya xb yb xc yc xq yq w ha hb hc hq
  have T3 := Lib.hid fun w => inT_spec xa ya xc yc xb yb xq yq w ha hc hb hq
  generalize triB xa ya xb yb xc yc xq yq = r at *
  generalize sdI xa ya xb yb xc yc = s at *
  generalize inT xa ya xb yb xc yc xq yq = t1 at *
  generalize inT xa ya xc yc xb yb xq yq = t2 at *
  clear ha hb hc hq
  by_cases h1 : 0 < s
  · go_enter Try.func22, Try.ntmps22
    go_wp2_with fail
    refine (four_yes xa ya xb yb xc yc xq yq _ HV.out).mono ?_
    rintro e w1 ⟨rfl, g1⟩
    have HG1 := Lib.hid g1
    obtain ⟨k1, q1⟩ := bcell g1
    clear g1
    go_wp2_with fail
    refine (T1.out _).mono ?_
    rintro e w2 ⟨rfl, g2⟩
    have HG2 := Lib.hid (bseq HG1.out g2)
    obtain ⟨k2, q2⟩ := bcell (bseq HG1.out g2)
    clear g2 k1 q1
    go_wp2_with fail
    refine (T2.out _).mono ?_
    rintro e w3 ⟨rfl, g3⟩
    have HG3 := Lib.hid (bseq HG2.out g3)
    clear g3 k2 q2
    go_wp2
    go_ret
    exact ⟨ret_bool' (by rw [HT.out]; simp [h1]), bseq (four_allocs _ _ _ _) HG3.out⟩
  · by_cases h2 : s < 0
    · go_enter Try.func22, Try.ntmps22
      go_wp2_with fail
      refine (four_yes xa ya xb yb xc yc xq yq _ HV.out).mono ?_
      rintro e w1 ⟨rfl, g1⟩
      have HG1 := Lib.hid g1
      obtain ⟨k1, q1⟩ := bcell g1
      clear g1
      go_wp2_with fail
      refine (T1.out _).mono ?_
      rintro e w2 ⟨rfl, g2⟩
      have HG2 := Lib.hid (bseq HG1.out g2)
      obtain ⟨k2, q2⟩ := bcell (bseq HG1.out g2)
      clear g2 k1 q1
      go_wp2_with fail
      refine (T3.out _).mono ?_
      rintro e w3 ⟨rfl, g3⟩
      have HG3 := Lib.hid (bseq HG2.out g3)
      clear g3 k2 q2
      go_wp2
      go_ret
      exact ⟨ret_bool' (by rw [HT.out, if_neg (by omega)]; simp [h2]), bseq (four_allocs _ _ _ _) HG3.out⟩
    · go_enter Try.func22, Try.ntmps22
      go_wp2_with fail
      refine (four_yes xa ya xb yb xc yc xq yq _ HV.out).mono ?_
      rintro e w1 ⟨rfl, g1⟩
      have HG1 := Lib.hid g1
      obtain ⟨k1, q1⟩ := bcell g1
      clear g1
      go_wp2_with fail
      refine (T1.out _).mono ?_
      rintro e w2 ⟨rfl, g2⟩
      have HG2 := Lib.hid (bseq HG1.out g2)
      clear g2 k1 q1
      go_wp2
      go_ret
      exact ⟨ret_bool' (by rw [HT.out, if_neg (by omega), decide_eq_false (by omega)]; rfl), bseq (four_allocs _ _ _ _) HG2.out⟩
/-- A triangle as a value. -/
def triV (xa ya xb yb xc yc : Int) : Value := .agg #[.int .i64 xa, .int .i64 ya, .int .i64 xb, .int .i64 yb, .int .i64 xc, .int .i64 yc]
theorem turn_tri (xa ya xb yb xc yc : Int) (w : World) (ha : okI xa ya = true) (hb : okI xb yb = true) (hc : okI xc yc = true) :
    Calls Try.prog 134 #[triV xa ya xb yb xc yc] w fun e w' => e = .returned (.int .i64 (sdI xa ya xb yb xc yc)) ∧ Below w.heap.size w w' := by
  have T1 := Lib.hid fun w => side_any xa ya xb yb xc yc w ha hb hc
  clear ha hb hc
  unfold triV
  go_enter Try.func134, Try.ntmps134
  go_wp2_with fail
  refine (T1.out _).mono ?_
  rintro e w1 ⟨rfl, g1⟩
  have HG1 := Lib.hid g1
  clear g1
  go_wp2
  go_ret
  exact ⟨rfl, bseq (one_alloc _) HG1.out⟩
theorem edges_tri (xa ya xb yb xc yc : Int) (w : World) :
    Calls Try.prog 135 #[triV xa ya xb yb xc yc] w fun e w' => e = .returned (.agg #[.int .i64 xa, .int .i64 ya, .int .i64 xb, .int .i64 yb, .int .i64 xb, .int .i64 yb, .int .i64 xc, .int .i64 yc, .int .i64 xc, .int .i64 yc, .int .i64 xa, .int .i64 ya]) ∧ Below w.heap.size w w' := by
  unfold triV
  go_enter Try.func135, Try.ntmps135
  go_wp2
  exact bodyPost_ret (v := .agg #[.int .i64 xa, .int .i64 ya, .int .i64 xb, .int .i64 yb, .int .i64 xb, .int .i64 yb, .int .i64 xc, .int .i64 yc, .int .i64 xc, .int .i64 yc, .int .i64 xa, .int .i64 ya]) (by simp [results, Try.results135, go_sem]) rfl ⟨rfl, two_allocs _ _⟩
theorem edges_ix (xa ya xb yb xc yc : Int) : (∀ w, (Instr.index 131 (.agg #[.int .i64 xa, .int .i64 ya, .int .i64 xb, .int .i64 yb, .int .i64 xb, .int .i64 yb, .int .i64 xc, .int .i64 yc, .int .i64 xc, .int .i64 yc, .int .i64 xa, .int .i64 ya]) (.int .i64 0)).run Try.prog w = .ok (.agg #[.int .i64 xa, .int .i64 ya, .int .i64 xb, .int .i64 yb]) w) ∧
    (∀ w, (Instr.index 131 (.agg #[.int .i64 xa, .int .i64 ya, .int .i64 xb, .int .i64 yb, .int .i64 xb, .int .i64 yb, .int .i64 xc, .int .i64 yc, .int .i64 xc, .int .i64 yc, .int .i64 xa, .int .i64 ya]) (.int .i64 1)).run Try.prog w = .ok (.agg #[.int .i64 xb, .int .i64 yb, .int .i64 xc, .int .i64 yc]) w) ∧
    (∀ w, (Instr.index 131 (.agg #[.int .i64 xa, .int .i64 ya, .int .i64 xb, .int .i64 yb, .int .i64 xb, .int .i64 yb, .int .i64 xc, .int .i64 yc, .int .i64 xc, .int .i64 yc, .int .i64 xa, .int .i64 ya]) (.int .i64 2)).run Try.prog w = .ok (.agg #[.int .i64 xc, .int .i64 yc, .int .i64 xa, .int .i64 ya]) w) :=
  ⟨fun _ => by kernel_rfl, fun _ => by kernel_rfl, fun _ => by kernel_rfl⟩
/-- What impl asks of a point in a triangle: the sides of its edges, and how it goes around. -/
def conI (t s1 s2 s3 : Int) : Bool := !decide (s1 = -t) && !decide (s2 = -t) && !decide (s3 = -t) && !decide (t = 0)
theorem conI_end {t s1 s2 s3 : Int} (h1 : s1 ≠ -t) (h2 : s2 ≠ -t) (h3 : s3 ≠ -t) : (t != 0) = conI t s1 s2 s3 := by
  unfold conI
  rw [decide_eq_false h1, decide_eq_false h2, decide_eq_false h3]
  by_cases h : t = 0 <;> simp [h]
set_option maxRecDepth 100000 in
set_option maxHeartbeats 1000000 in
theorem con_impl (xa ya xb yb xc yc xq yq : Int) (w : World) (ha : okI xa ya = true) (hb : okI xb yb = true) (hc : okI xc yc = true) (hq : okI xq yq = true) :
    Calls Try.prog 84 #[triV xa ya xb yb xc yc, .agg #[.int .i64 xq, .int .i64 yq]] w fun e w' => e = .returned (.bool (conI (sdI xa ya xb yb xc yc) (sdI xa ya xb yb xq yq) (sdI xb yb xc yc xq yq) (sdI xc yc xa ya xq yq))) ∧ Below w.heap.size w w' := by
  have T0 := Lib.hid fun w => turn_tri xa ya xb yb xc yc w ha hb hc
  have TE := Lib.hid fun w => edges_tri xa ya xb yb xc yc w
  have T1 := Lib.hid fun w => side_any xa ya xb yb xq yq w ha hb hq
  have T2 := Lib.hid fun w => side_any xb yb xc yc xq yq w hb hc hq
  have T3 := Lib.hid fun w => side_any xc yc xa ya xq yq w hc ha hq
  have R0 := side_rng xa ya xb yb xc yc
  unfold triV at *
  generalize sdI xa ya xb yb xc yc = t at *
  generalize sdI xa ya xb yb xq yq = s1 at *
  generalize sdI xb yb xc yc xq yq = s2 at *
  generalize sdI xc yc xa ya xq yq = s3 at *
  clear ha hb hc hq
  have HN := Lib.hid (show IntKind.i64.wrap (-t) = -t from IntWalk.i64_in _ (by omega))
  clear R0
  go_enter Try.func84, Try.ntmps84
  go_wp2_with fail
  refine (T0.out _).mono ?_
  rintro e w1 ⟨rfl, g1⟩
  have HG1 := Lib.hid g1
  obtain ⟨k1, q1⟩ := bcell g1
  clear g1
  go_wp2_with fail
  refine (TE.out _).mono ?_
  rintro e w2 ⟨rfl, g2⟩
  have HG2 := Lib.hid (bseq HG1.out g2)
  obtain ⟨k2, q2⟩ := bcell (bseq HG1.out g2)
  clear g2 k1 q1
  have d0 : w2.cell? ⟨w.heap.size + 1, 0, none⟩ = some (.int .i64 xq) := by rw [k2 _ _ (by simp)]; go_simp
  have d1 : w2.cell? ⟨w.heap.size + 1, 1, none⟩ = some (.int .i64 yq) := by rw [k2 _ _ (by simp)]; go_simp
  have HZ := Lib.hid (show w.heap.size + 1 < w2.heap.size by have := HG2.out.size; simp at this; omega)
  clear k2 q2
  have HW2 := Lib.hid (bseq (two_allocs _ _) HG2.out)
  clear HG2 HG1
  have D0 := Lib.hid d0
  have D1 := Lib.hid d1
  clear d0 d1
  go_wp2
  go_loopw [12] (fun iv wr => ∃ k : Nat, k ≤ 3 ∧ iv = .int .i64 k ∧ Hid ((1 ≤ k → s1 ≠ -t) ∧ (2 ≤ k → s2 ≠ -t) ∧ (3 ≤ k → s3 ≠ -t)) ∧ Hid (Below w2.heap.size w2 wr)) (fun i _ => 3 - (intOf i).toNat)
  case atStart => exact ⟨0, by omega, rfl, Lib.hid (by omega), Lib.hid (Below.refl _ _)⟩
  case round =>
    obtain ⟨k, hk, rfl, hi, hb⟩ := hrel
    have c0 := ((bcell hb.out).1 _ _ HZ.out).trans D0.out
    have c1 := ((bcell hb.out).1 _ _ HZ.out).trans D1.out
    have hz1 : w.heap.size + 1 < wr.heap.size := by have := hb.out.size; have := HZ.out; omega
    obtain ⟨i0, i1, i2⟩ := edges_ix xa ya xb yb xc yc
    by_cases hlt : k < 3
    · match k, hlt with
      | 0, _ =>
        go_wp2_with fail
        refine (T1.out _).mono ?_
        rintro e w3 ⟨rfl, g3⟩
        have HG3 := Lib.hid (bseq (hb.out.alloc hb.out.size _) g3)
        clear g3
        by_cases hs : s1 = -t
        · have HR := Lib.hid (show conI t s1 s2 s3 = false by simp [conI, hs])
          have hn := HN.out
          go_wp2
          go_ret
          exact ⟨ret_bool' HR.out.symm, bseq HW2.out HG3.out⟩
        · have hn := HN.out
          go_wp2
          go_roundw
          case rel => exact ⟨1, by omega, rfl, Lib.hid (by have := hi.out; omega), Lib.hid HG3.out⟩
          case measure => simp [intOf]
      | 1, _ =>
        go_wp2_with fail
        refine (T2.out _).mono ?_
        rintro e w3 ⟨rfl, g3⟩
        have HG3 := Lib.hid (bseq (hb.out.alloc hb.out.size _) g3)
        clear g3
        by_cases hs : s2 = -t
        · have HR := Lib.hid (show conI t s1 s2 s3 = false by simp [conI, hs])
          have hn := HN.out
          go_wp2
          go_ret
          exact ⟨ret_bool' HR.out.symm, bseq HW2.out HG3.out⟩
        · have hn := HN.out
          go_wp2
          go_roundw
          case rel => exact ⟨2, by omega, rfl, Lib.hid (by have := hi.out; omega), Lib.hid HG3.out⟩
          case measure => simp [intOf]
      | 2, _ =>
        go_wp2_with fail
        refine (T3.out _).mono ?_
        rintro e w3 ⟨rfl, g3⟩
        have HG3 := Lib.hid (bseq (hb.out.alloc hb.out.size _) g3)
        clear g3
        by_cases hs : s3 = -t
        · have HR := Lib.hid (show conI t s1 s2 s3 = false by simp [conI, hs])
          have hn := HN.out
          go_wp2
          go_ret
          exact ⟨ret_bool' HR.out.symm, bseq HW2.out HG3.out⟩
        · have hn := HN.out
          go_wp2
          go_roundw
          case rel => exact ⟨3, by omega, rfl, Lib.hid (by have := hi.out; omega), Lib.hid HG3.out⟩
          case measure => simp [intOf]
    · go_wp2
      go_ret
      exact ⟨ret_bool' (by have := hi.out; exact conI_end (this.1 (by omega)) (this.2.1 (by omega)) (this.2.2 (by omega))), bseq HW2.out hb.out⟩
theorem tri_same (xa ya xb yb xc yc xq yq : Int) : conI (sdI xa ya xb yb xc yc) (sdI xa ya xb yb xq yq) (sdI xb yb xc yc xq yq) (sdI xc yc xa ya xq yq) = triB xa ya xb yb xc yc xq yq := by
  have r1 := side_rng xa ya xb yb xq yq
  have r2 := side_rng xb yb xc yc xq yq
  have r3 := side_rng xc yc xa ya xq yq
  have r0 := side_rng xa ya xb yb xc yc
  have e1 := sd_swap xb yb xa ya xq yq
  have e2 := sd_swap xc yc xb yb xq yq
  have e3 := sd_swap xa ya xc yc xq yq
  unfold triB inT
  generalize sdI xa ya xb yb xc yc = t at *
  generalize sdI xa ya xb yb xq yq = s1 at *
  generalize sdI xb yb xc yc xq yq = s2 at *
  generalize sdI xc yc xa ya xq yq = s3 at *
  generalize sdI xb yb xa ya xq yq = u1 at *
  generalize sdI xc yc xb yb xq yq = u2 at *
  generalize sdI xa ya xc yc xq yq = u3 at *
  unfold conI
  split
  · rw [Bool.eq_iff_iff]; simp; omega
  · rw [Bool.eq_iff_iff]; simp; omega
theorem tri_impl_no (xa ya xb yb xc yc xq yq : Int) (w : World) (hv : (okI xa ya && okI xb yb && okI xc yc && okI xq yq) = false) :
    Calls Try.prog 23 #[.agg #[.int .i64 xa, .int .i64 ya], .agg #[.int .i64 xb, .int .i64 yb], .agg #[.int .i64 xc, .int .i64 yc], .agg #[.int .i64 xq, .int .i64 yq]] w fun e w' => e = .returned (.bool false) ∧ Below w.heap.size w w' := by
  have HV := Lib.hid hv
  clear hv
  go_enter Try.func23, Try.ntmps23
  go_wp2_with fail
  refine (allValid4_no _ _ _ _ _ _ _ _ _ _ _ (by simp) HV.out).mono ?_
  rintro e w1 ⟨rfl, g1⟩
  have HG1 := Lib.hid g1
  clear g1
  go_wp2
  go_ret
  exact ⟨rfl, bseq (five_allocs _ _ _ _ _) HG1.out⟩
set_option maxRecDepth 100000 in
set_option maxHeartbeats 1000000 in
theorem tri_impl_yes (xa ya xb yb xc yc xq yq : Int) (w : World) (ha : okI xa ya = true) (hb : okI xb yb = true) (hc : okI xc yc = true) (hq : okI xq yq = true) :
    Calls Try.prog 23 #[.agg #[.int .i64 xa, .int .i64 ya], .agg #[.int .i64 xb, .int .i64 yb], .agg #[.int .i64 xc, .int .i64 yc], .agg #[.int .i64 xq, .int .i64 yq]] w fun e w' => e = .returned (.bool (triB xa ya xb yb xc yc xq yq)) ∧ Below w.heap.size w w' := by
  have HV := Lib.hid (v4_of xa ya xb yb xc yc xq yq ha hb hc hq)
  have T1 := Lib.hid fun w => con_impl xa ya xb yb xc yc xq yq w ha hb hc hq
  have HE := Lib.hid (tri_same xa ya xb yb xc yc xq yq)
  clear ha hb hc hq
  unfold triV at T1
  go_enter Try.func23, Try.ntmps23
  go_wp2_with fail
  refine (allValid4_yes _ _ _ _ _ _ _ _ _ _ _ (by simp) HV.out).mono ?_
  rintro e w1 ⟨rfl, g1⟩
  have HG1 := Lib.hid g1
  obtain ⟨k1, q1⟩ := bcell g1
  clear g1
  go_wp2_with fail
  refine (T1.out _).mono ?_
  rintro e w2 ⟨rfl, g2⟩
  have HG2 := Lib.hid (bseq HG1.out g2)
  clear g2 k1 q1
  go_wp2
  go_ret
  exact ⟨ret_bool' HE.out, bseq (five_allocs _ _ _ _ _) HG2.out⟩
end Go.Proofs.Ytjhmpmaademdcaa
