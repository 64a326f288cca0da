/- Polygons of impl: corners, edges that go on. -/
import Derived.Test.YtjhmpmaademdcaaPolyOk
import Derived.Test.YtjhmpmaademdcaaSegCont
import Derived.Test.YtjhmpmaademdcaaPlan
namespace Go.Proofs.Ytjhmpmaademdcaa
open Go.ChangeShapes Go.WideShapes Go.ChangeAt Go.RowKit
set_option linter.unusedVariables false

set_option maxHeartbeats 400000 in
theorem corner_any (b len cap k : Nat) (zs : List P2) (w : World) (hz : len = zs.length) (h1 : 1 ≤ len) (hl : len ≤ 1000) (hk : k ≤ 2000) (hp : PtsAt w b zs) :
    Calls Try.prog 166 #[.slice (some ⟨b, 0, none⟩) len cap, .int .i64 k] w fun e w' => e = .returned (.agg #[.int .i64 (pt zs k).1, .int .i64 (pt zs k).2]) ∧ Below w.heap.size w w' := by
  have HZ := Lib.hid hz
  have HP := Lib.hid hp
  clear hz hp
  have hj : k % zs.length < zs.length := Nat.mod_lt _ (by have := HZ.out; omega)
  obtain ⟨x, y, e1, c1, c2⟩ := HP.out.pt hj
  have hbw := HP.out.1
  rw [show pt zs k = (x, y) from e1]
  clear e1
  rw [← HZ.out] at hj c1 c2
  have gm : (k : Int) % (len : Int) = ((k % len : Nat) : Int) := by simp
  generalize k % len = j at *
  go_enter Try.func166, Try.ntmps166
  go_wp2
  exact bodyPost_ret (v := .agg #[.int .i64 x, .int .i64 y]) (by simp [results, Try.results166, go_sem]) rfl ⟨rfl, one_alloc _⟩
theorem pt_add (zs : List P2) (k : Nat) : pt zs (k % zs.length) = pt zs k := by simp [pt]
theorem go_val2 (zs : List P2) (k : Nat) (x y u v s t : Int) (h0 : pt zs k = (x, y)) (h1 : pt zs (k + 1) = (u, v)) (h2 : pt zs (k + 2) = (s, t)) :
    goOk zs k = !((decide (x = u) && decide (y = v)) || onB x y u v s t || onB u v s t x y) := by
  unfold goOk
  rw [h0, h1, h2]; rfl
theorem goB_bad {zs : List P2} {k : Nat} (hk : k < zs.length) (h : goOk zs k = false) : goB zs = false := allTo_bad hk h
theorem pt_eta (zs : List P2) (k : Nat) : ∃ x y, pt zs k = (x, y) := ⟨_, _, rfl⟩
theorem grow3 {w wr w3 w4 : World} {o1 o2 o3 : Obj} (hb : Below w.heap.size w wr) (h3 : Below wr.heap.size wr w3) (h4 : Below (((w3.alloc o1).alloc o2).alloc o3).heap.size (((w3.alloc o1).alloc o2).alloc o3) w4) : Below w.heap.size w w4 :=
  bseq (bseq hb h3) (bseq (three_allocs _ _ _) h4)
set_option maxRecDepth 100000 in
set_option maxHeartbeats 4000000 in
theorem goesOn_any (b len cap : Nat) (zs : List P2) (w : World) (hz : len = zs.length) (h3 : 3 ≤ len) (hl : len ≤ 24) (hv : allOk zs = true) (hp : PtsAt w b zs) :
    Calls Try.prog 137 #[.slice (some ⟨b, 0, none⟩) len cap] w fun e w' => e = .returned (.bool (goB zs)) ∧ Below w.heap.size w w' := by
  have HZ := Lib.hid hz
  have HP := Lib.hid hp
  have HV := Lib.hid hv
  clear hz hp hv
  go_enter Try.func137, Try.ntmps137
  go_wp2
  go_loopw [11] (fun i wr => ∃ k : Nat, k ≤ len ∧ i = .int .i64 k ∧ Hid (allTo (goOk zs) k = true) ∧ Hid (Below w.heap.size w wr)) (fun i _ => len - (intOf i).toNat)
  case atStart => exact ⟨0, by omega, rfl, Lib.hid rfl, Lib.hid (Below.refl _ _)⟩
  case round =>
    obtain ⟨k, hk, rfl, hg, hb⟩ := hrel
    by_cases hlt : k < len
    · have hkz : k < zs.length := by have := HZ.out; omega
      have HPP := Lib.hid (HP.out.below hb.out HP.out.1)
      have hwb := HPP.out.1
      obtain ⟨xa, ya, e1⟩ := pt_eta zs k
      obtain ⟨xb, yb, e2⟩ := pt_eta zs (k + 1)
      obtain ⟨xc, yc, e3⟩ := pt_eta zs (k + 2)
      have hA := pt_ok HV.out (by omega) k
      have hB := pt_ok HV.out (by omega) (k + 1)
      have hC := pt_ok HV.out (by omega) (k + 2)
      have HG := Lib.hid (go_val2 zs k _ _ _ _ _ _ e1 e2 e3)
      rw [e1] at hA
      rw [e2] at hB
      rw [e3] at hC
      have HA := Lib.hid hA
      have HB := Lib.hid hB
      have HC := Lib.hid hC
      have E1 := Lib.hid e1
      have E2 := Lib.hid e2
      have E3 := Lib.hid e3
      clear e1 e2 e3 hA hB hC
      go_wp2_with fail
      refine (corner_any b len cap k zs _ HZ.out (by omega) (by omega) (by omega) HPP.out).mono ?_
      rintro e w1 ⟨rfl, g1⟩
      have HW1 := Lib.hid g1
      clear g1
      rw [E1.out]
      go_wp2_with fail
      refine (corner_any b len cap (k + 1) zs _ HZ.out (by omega) (by omega) (by omega) (HPP.out.below HW1.out hwb)).mono ?_
      rintro e w2 ⟨rfl, g2⟩
      have HW2 := Lib.hid (bseq HW1.out g2)
      clear g2
      rw [E2.out]
      go_wp2_with fail
      refine (corner_any b len cap (k + 2) zs _ HZ.out (by omega) (by omega) (by omega) (HPP.out.below HW2.out hwb)).mono ?_
      rintro e w3 ⟨rfl, g3⟩
      have HW3 := Lib.hid (bseq HW2.out g3)
      clear g3
      rw [E3.out]
      go_wp2
      refine wp_region_plan [.val 0 [] (.agg #[.int .i64 xa, .int .i64 ya]), .val 1 [] (.agg #[.int .i64 xb, .int .i64 yb]), .val 2 [] (.agg #[.int .i64 xa, .int .i64 ya, .int .i64 xb, .int .i64 yb]), .val 3 [] (.agg #[.int .i64 xb, .int .i64 yb]), .val 4 [] (.agg #[.int .i64 xc, .int .i64 yc]), .val 5 [] (.agg #[.int .i64 xb, .int .i64 yb, .int .i64 xc, .int .i64 yc]), .make 6 (.cells #[.int .i64 0, .int .i64 0, .int .i64 0, .int .i64 0] 105 (0, 0)) (fun p => .pointer (some ⟨p, 0, none⟩)), .make 7 (.cells #[.int .i64 0, .int .i64 0, .int .i64 0, .int .i64 0] 105 (0, 0)) (fun p => .pointer (some ⟨p, 0, none⟩)), .put 8 6 (.cells #[.int .i64 xa, .int .i64 ya, .int .i64 xb, .int .i64 yb] 105 (0, 0)), .put 9 7 (.cells #[.int .i64 xb, .int .i64 yb, .int .i64 xc, .int .i64 yc] 105 (0, 0))] (by kernel_rfl) (by kernel_rfl) rfl ?_
      refine plan_val (by kernel_rfl) (by kernel_rfl) (by kernel_rfl) (by go_simp) (fun w1 hw1 => ?_) ?_
      · obtain ⟨hc, hf⟩ := bcell hw1; clear hw1; go_simp; (try with_reducible rfl)
      (try simp only [Act.put, List.setIfInBounds_toArray, List.set_cons_zero, List.set_cons_succ])
      refine plan_val (by kernel_rfl) (by kernel_rfl) (by kernel_rfl) (by go_simp) (fun w1 hw1 => ?_) ?_
      · obtain ⟨hc, hf⟩ := bcell hw1; clear hw1; go_simp; (try with_reducible rfl)
      (try simp only [Act.put, List.setIfInBounds_toArray, List.set_cons_zero, List.set_cons_succ])
      refine plan_val (by kernel_rfl) (by kernel_rfl) (by kernel_rfl) (by go_simp) (fun w1 hw1 => ?_) ?_
      · obtain ⟨hc, hf⟩ := bcell hw1; clear hw1; go_simp; (try with_reducible rfl)
      (try simp only [Act.put, List.setIfInBounds_toArray, List.set_cons_zero, List.set_cons_succ])
      refine plan_val (by kernel_rfl) (by kernel_rfl) (by kernel_rfl) (by go_simp) (fun w1 hw1 => ?_) ?_
      · obtain ⟨hc, hf⟩ := bcell hw1; clear hw1; go_simp; (try with_reducible rfl)
      (try simp only [Act.put, List.setIfInBounds_toArray, List.set_cons_zero, List.set_cons_succ])
      refine plan_val (by kernel_rfl) (by kernel_rfl) (by kernel_rfl) (by go_simp) (fun w1 hw1 => ?_) ?_
      · obtain ⟨hc, hf⟩ := bcell hw1; clear hw1; go_simp; (try with_reducible rfl)
      (try simp only [Act.put, List.setIfInBounds_toArray, List.set_cons_zero, List.set_cons_succ])
      refine plan_val (by kernel_rfl) (by kernel_rfl) (by kernel_rfl) (by go_simp) (fun w1 hw1 => ?_) ?_
      · obtain ⟨hc, hf⟩ := bcell hw1; clear hw1; go_simp; (try with_reducible rfl)
      (try simp only [Act.put, List.setIfInBounds_toArray, List.set_cons_zero, List.set_cons_succ])
      refine plan_make (by kernel_rfl) (by kernel_rfl) (by go_simp) (fun w1 => ?_) (fun p6 hp6 => ?_)
      · go_simp; (try with_reducible rfl)
      (try simp only [Act.put, List.setIfInBounds_toArray, List.set_cons_zero, List.set_cons_succ])
      refine plan_make (by kernel_rfl) (by kernel_rfl) (by go_simp) (fun w1 => ?_) (fun p7 hp7 => ?_)
      · go_simp; (try with_reducible rfl)
      (try simp only [Act.put, List.setIfInBounds_toArray, List.set_cons_zero, List.set_cons_succ])
      refine plan_put (p := p6) (by kernel_rfl) (by kernel_rfl) (by kernel_rfl) (by kernel_rfl) (by go_simp) (Or.inr (Or.inl rfl)) (fun w1 hg hh => ?_) ?_
      · obtain ⟨c0, f0, c1, f1, c2, f2, c3, f3⟩ := cells4_of hh
        refine ⟨_, ?_, stored4 hh⟩
        clear hh hg; go_simp; (try with_reducible rfl)
      (try simp only [Act.put])
      refine plan_put (p := p7) (by kernel_rfl) (by kernel_rfl) (by kernel_rfl) (by kernel_rfl) (by go_simp) (Or.inl ⟨Or.inl rfl, (fun h => by cases h)⟩) (fun w1 hg hh => ?_) ?_
      · obtain ⟨c0, f0, c1, f1, c2, f2, c3, f3⟩ := cells4_of hh
        refine ⟨_, ?_, stored4 hh⟩
        clear hh hg; go_simp; (try with_reducible rfl)
      (try simp only [Act.put])
      refine plan_done (by kernel_rfl) (fun w4 hC => ?_)
      obtain ⟨b6, s6, g6⟩ := hC.2 ⟨6, p6, _⟩ (Or.inl ⟨Or.inr ⟨⟨6, p6, _⟩, Or.inr (Or.inl rfl), rfl, rfl⟩, (fun h => by cases h)⟩)
      obtain ⟨b7, s7, g7⟩ := hC.2 ⟨7, p7, _⟩ (Or.inr ⟨⟨7, p7, _⟩, Or.inl ⟨Or.inl rfl, (fun h => by cases h)⟩, rfl, rfl⟩)
      obtain ⟨c60, f60, c61, f61, c62, f62, c63, f63⟩ := cells4_of g6
      obtain ⟨c70, f70, c71, f71, c72, f72, c73, f73⟩ := cells4_of g7
      have HB4 := Lib.hid hC.1
      obtain ⟨k4, q4⟩ := bcell hC.1
      clear hC g6 g7 f60 f61 f62 f63 f70 f71 f72 f73 hp6 hp7
      have n0 : w3.heap.size < w4.heap.size := by have := HB4.out.size; simp at this; omega
      have n1 : w3.heap.size + 1 < w4.heap.size := by have := HB4.out.size; simp at this; omega
      have n2 : w3.heap.size + 1 + 1 < w4.heap.size := by have := HB4.out.size; simp at this; omega
      have a0 : w4.cell? ⟨w3.heap.size, 0, none⟩ = some (.int .i64 xa) := by rw [k4 _ _ (by simp <;> omega)]; go_simp
      have a1 : w4.cell? ⟨w3.heap.size, 1, none⟩ = some (.int .i64 ya) := by rw [k4 _ _ (by simp <;> omega)]; go_simp
      have a2 : w4.cell? ⟨w3.heap.size + 1, 0, none⟩ = some (.int .i64 xb) := by rw [k4 _ _ (by simp <;> omega)]; go_simp
      have a3 : w4.cell? ⟨w3.heap.size + 1, 1, none⟩ = some (.int .i64 yb) := by rw [k4 _ _ (by simp <;> omega)]; go_simp
      have a4 : w4.cell? ⟨w3.heap.size + 1 + 1, 0, none⟩ = some (.int .i64 xc) := by rw [k4 _ _ (by simp <;> omega)]; go_simp
      have a5 : w4.cell? ⟨w3.heap.size + 1 + 1, 1, none⟩ = some (.int .i64 yc) := by rw [k4 _ _ (by simp <;> omega)]; go_simp
      clear k4 q4
      cases c0 : (decide (xa = xb) && decide (ya = yb))
      rotate_left
      · obtain ⟨rfl, rfl⟩ : xa = xb ∧ ya = yb := by simpa using c0
        go_wp2
        go_ret
        exact ⟨ret_bool (goB_bad hkz (by rw [HG.out]; simp)).symm, grow3 hb.out HW3.out HB4.out⟩
      have c0' : ¬ (xa = xb ∧ ya = yb) := by simpa using c0
      have HG2 := HG
      rw [c0, Bool.false_or] at HG2
      clear HG c0
      have hxu : xa ≠ xb ∨ xa = xb := by omega
      rcases hxu with hxu | hxu
      rotate_left
      · subst hxu
        have hyv : ya ≠ yb := fun h => c0' ⟨rfl, h⟩
        clear c0'
        cases c1 : onB xa ya xa yb xc yc
        rotate_left
        · go_wp2_with fail
          refine (contains_any _ _ _ _ _ _ _ HA.out HB.out HC.out).mono ?_
          rintro e w5 ⟨rfl, hb5⟩
          have HB5 := Lib.hid hb5
          clear hb5
          rw [c1]
          go_wp2
          go_ret
          exact ⟨ret_bool (goB_bad hkz (by rw [HG2.out, c1]; rfl)).symm, bseq (grow3 hb.out HW3.out HB4.out) HB5.out⟩
        cases c2 : onB xa yb xc yc xa ya
        all_goals
          go_wp2_with fail
          refine (contains_any _ _ _ _ _ _ _ HA.out HB.out HC.out).mono ?_
          rintro e w5 ⟨rfl, hb5⟩
          obtain ⟨k5, q5⟩ := bcell hb5
          have HB5 := Lib.hid hb5
          clear hb5
          rw [c1]
          go_wp2_with fail
          refine (contains_any _ _ _ _ _ _ _ HB.out HC.out HA.out).mono ?_
          rintro e w6 ⟨rfl, hb6⟩
          have HB6 := Lib.hid (bseq HB5.out hb6)
          clear hb6
          rw [c2]
          clear k5 q5
          go_wp2
        · go_roundw
          case rel => exact ⟨k + 1, by omega, by go_num, Lib.hid (allTo_succ hg.out (by rw [HG2.out, c1, c2]; rfl)), Lib.hid (bseq (grow3 hb.out HW3.out HB4.out) HB6.out)⟩
          case measure => simp [intOf]; omega
        · go_ret
          exact ⟨ret_bool (goB_bad hkz (by rw [HG2.out, c1, c2]; rfl)).symm, bseq (grow3 hb.out HW3.out HB4.out) HB6.out⟩
      · clear c0'
        cases c1 : onB xa ya xb yb xc yc
        rotate_left
        · go_wp2_with fail
          refine (contains_any _ _ _ _ _ _ _ HA.out HB.out HC.out).mono ?_
          rintro e w5 ⟨rfl, hb5⟩
          have HB5 := Lib.hid hb5
          clear hb5
          rw [c1]
          go_wp2
          go_ret
          exact ⟨ret_bool (goB_bad hkz (by rw [HG2.out, c1]; rfl)).symm, bseq (grow3 hb.out HW3.out HB4.out) HB5.out⟩
        cases c2 : onB xb yb xc yc xa ya
        all_goals
          go_wp2_with fail
          refine (contains_any _ _ _ _ _ _ _ HA.out HB.out HC.out).mono ?_
          rintro e w5 ⟨rfl, hb5⟩
          obtain ⟨k5, q5⟩ := bcell hb5
          have HB5 := Lib.hid hb5
          clear hb5
          rw [c1]
          go_wp2_with fail
          refine (contains_any _ _ _ _ _ _ _ HB.out HC.out HA.out).mono ?_
          rintro e w6 ⟨rfl, hb6⟩
          have HB6 := Lib.hid (bseq HB5.out hb6)
          clear hb6
          rw [c2]
          clear k5 q5
          go_wp2
        · go_roundw
          case rel => exact ⟨k + 1, by omega, by go_num, Lib.hid (allTo_succ hg.out (by rw [HG2.out, c1, c2]; rfl)), Lib.hid (bseq (grow3 hb.out HW3.out HB4.out) HB6.out)⟩
          case measure => simp [intOf]; omega
        · go_ret
          exact ⟨ret_bool (goB_bad hkz (by rw [HG2.out, c1, c2]; rfl)).symm, bseq (grow3 hb.out HW3.out HB4.out) HB6.out⟩
    · go_wp2
      go_ret
      exact ⟨ret_bool (by rw [goB, ← HZ.out, show len = k by omega, hg.out]), hb.out⟩
end Go.Proofs.Ytjhmpmaademdcaa
