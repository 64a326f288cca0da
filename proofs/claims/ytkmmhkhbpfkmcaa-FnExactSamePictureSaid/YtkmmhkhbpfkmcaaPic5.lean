/- Are two pictures equal: spec and impl. -/
import Derived.Test.YtkmmhkhbpfkmcaaPic1
import Derived.Test.YtkmmhkhbpfkmcaaFeVeneer
import Derived.Test.YtkmmhkhbpfkmcaaDrw16
namespace Go.Proofs.Ytkmmhkhbpfkmcaa
open Seq2 Go.ChangeShapes Go.WideShapes Go.ChangeAt Go.RowKit
set_option linter.unusedVariables false
set_option linter.unusedSimpArgs false

def samPc (a b : Pc) : Bool := samD a.dr b.dr && decide (a.vs = b.vs)
set_option maxRecDepth 100000 in
set_option maxHeartbeats 4000000 in
theorem samp_impl (u v : Value) (a b : Pc) (w : World) (ha : PcV w u a) (hb : PcV w v b) : Calls Try.prog 7 #[u, v] w fun e w' => e = .returned (.bool (samPc a b)) ∧ Below w.heap.size w w' := by
  obtain ⟨ao, bo, n, c, m, d, eo, k, e, rfl, hs, h2, h3, h4⟩ := ha.out
  obtain ⟨ao', bo', n', c', m', d', eo', k', e', rfl, hs', h2', h3', h4'⟩ := hb.out
  have hA := two_allocs (w := w) (.cells #[.int .i64 a.dr.wd, .int .i64 a.dr.hg, .slice ao n c, .slice bo m d, .slice eo k e] 37) (.cells #[.int .i64 b.dr.wd, .int .i64 b.dr.hg, .slice ao' n' c', .slice bo' m' d', .slice eo' k' e'] 37)
  have HX := Lib.hid ((Below.heap_alloc (w.alloc (.cells #[.int .i64 a.dr.wd, .int .i64 a.dr.hg, .slice ao n c, .slice bo m d, .slice eo k e] 37)) (.cells #[.int .i64 b.dr.wd, .int .i64 b.dr.hg, .slice ao' n' c', .slice bo' m' d', .slice eo' k' e'] 37) w.heap.size (by simp)).trans (World.alloc_heap_new w (.cells #[.int .i64 a.dr.wd, .int .i64 a.dr.hg, .slice ao n c, .slice bo m d, .slice eo k e] 37)))
  have HY := World.alloc_heap_new (w.alloc (.cells #[.int .i64 a.dr.wd, .int .i64 a.dr.hg, .slice ao n c, .slice bo m d, .slice eo k e] 37)) (.cells #[.int .i64 b.dr.wd, .int .i64 b.dr.hg, .slice ao' n' c', .slice bo' m' d', .slice eo' k' e'] 37)
  rw [show (w.alloc (.cells #[.int .i64 a.dr.wd, .int .i64 a.dr.hg, .slice ao n c, .slice bo m d, .slice eo k e] 37)).heap.size = w.heap.size + 1 by simp] at HY
  replace HY := Lib.hid HY
  have HA := Lib.hid hA
  have HD := Lib.hid (h2.below hA)
  have HD' := Lib.hid (h2'.below hA)
  have HV := Lib.hid (h4.below hA)
  have HV' := Lib.hid (h4'.below hA)
  have HK := Lib.hid (And.intro h3 h3')
  clear hA ha hb hs hs' h2 h2' h3 h3' h4 h4'
  cases r0 : samD a.dr b.dr with
  | false =>
    have HR := Lib.hid (show samPc a b = false by unfold samPc; rw [r0]; rfl)
    go_enter Try.func7, Try.ntmps7
    go_wp2_with fail
    refine (same_dimpl _ _ a.dr b.dr _ HD.out HD'.out).mono ?_
    rintro e1 w1 ⟨rfl, g1⟩
    have HG := Lib.hid (bseq HA.out g1)
    clear g1
    rw [r0]
    go_wp2
    go_ret
    exact ⟨ret_bool' HR.out.symm, HG.out⟩
  | true =>
    have HR := Lib.hid (show samPc a b = decide (a.vs = b.vs) by unfold samPc; rw [r0]; rfl)
    go_enter Try.func7, Try.ntmps7
    go_wp2_with fail
    refine (same_dimpl _ _ a.dr b.dr _ HD.out HD'.out).mono ?_
    rintro e1 w1 ⟨rfl, g1⟩
    have HG := Lib.hid (bseq HA.out g1)
    replace HX := Lib.hid ((g1.block _ (blk_lt HX.out)).trans HX.out)
    replace HY := Lib.hid ((g1.block _ (blk_lt HY.out)).trans HY.out)
    have HV1 := Lib.hid (HV.out.below g1)
    have HV1' := Lib.hid (HV'.out.below g1)
    clear g1
    rw [r0]
    have hz := blk_lt HX.out
    have hy := blk_lt HY.out
    have a4 := (cell_of_arr HX.out (j := 4) rfl).1
    have b4 := (cell_of_arr HY.out (j := 4) rfl).1
    go_wp2_with fail
    refine (equal_Vns eo eo' k k' e e' a.vs b.vs _ HK.out.1 HK.out.2 HV1.out HV1'.out).mono ?_
    rintro e1 w2 ⟨rfl, g2⟩
    have HG2 := Lib.hid (bseq HG.out g2)
    clear g2
    go_wp2
    go_ret
    exact ⟨ret_bool' HR.out.symm, HG2.out⟩
set_option maxRecDepth 100000 in
set_option maxHeartbeats 8000000 in
theorem samp_l08 (p q : Nat) (a b : Pc) (w : World) (ha : PcP w p a) (hb : PcP w q b) : Calls Try.prog 11 #[.pointer (some ⟨p, 0, none⟩), .pointer (some ⟨q, 0, none⟩)] w fun e w' => e = .returned (.bool (samPc a b)) ∧ Below w.heap.size w w' := by
  obtain ⟨ao, bo, n, c, m, d, eo, k, e, h1, hs, h2, h3, h4⟩ := ha.out
  obtain ⟨ao', bo', n', c', m', d', eo', k', e', h1', hs', h2', h3', h4'⟩ := hb.out
  have HP := Lib.hid ha.dp
  have HP' := Lib.hid hb.dp
  have HQ := Lib.hid h1
  have HQ' := Lib.hid h1'
  have HV := Lib.hid h4
  have HV' := Lib.hid h4'
  have HK := Lib.hid (And.intro h3 h3')
  have HZ := Lib.hid (And.intro h4.1 h4'.1)
  have hpw := h1.lt
  have hqw := h1'.lt
  have c4 := h1.c4
  have d4 := h1'.c4
  clear ha hb h1 h1' hs hs' h2 h2' h3 h3' h4 h4'
  cases r0 : samD a.dr b.dr with
  | false =>
    have HR := Lib.hid (show samPc a b = false by unfold samPc; rw [r0]; rfl)
    go_enter Try.func11, Try.ntmps11
    go_wp2
    refine wp_region_below (by kernel_rfl) (by kernel_rfl) ?_
    repeat (first | (refine wq_skip ?_ ?_; (focus (go_simp; (first | done | (simp [undef]; done)))); (try simp only [Act.put, List.setIfInBounds_toArray, List.set_cons_zero, List.set_cons_succ])) | (refine wq_val ?_ ?_; (focus (go_simp; done)); apply Exists.intro; refine ⟨fun w1 hw1 => ?_, ?_⟩; (obtain ⟨hc, hf⟩ := bcell hw1; clear hw1; go_simp; (first | done | with_reducible rfl | (with_reducible exact eql2 _ _ _) | (with_reducible exact neq2 _ _ _))); (try simp only [Act.put, List.setIfInBounds_toArray, List.set_cons_zero, List.set_cons_succ])) | (refine wq_call 21 ?_ ?_; (focus (go_simp; done)); apply Exists.intro; refine ⟨fun w1 hw1 => ?_, ?_⟩; (focus (clear hw1; go_simp; (first | done | with_reducible rfl))); apply Exists.intro; refine ⟨fun w1 hw1 => ?_, ?_⟩; (focus (exact calls_below hw1 (by have := same_l05 p q a.dr b.dr w1 (HP.out.below hw1) (HP'.out.below hw1); rw [r0] at this; exact this); done)); (try simp only [Act.put, List.setIfInBounds_toArray, List.set_cons_zero, List.set_cons_succ])))
    refine wq_nil ?_
    intro wc hbc
    have HC := Lib.hid hbc
    clear hbc
    go_wp2
    go_ret
    exact ⟨ret_bool' HR.out.symm, HC.out⟩
  | true =>
  by_cases hkk : k = k'
  rotate_left
  · have HR := Lib.hid (show samPc a b = false by unfold samPc; rw [r0]; simp; intro h; have := HZ.out; rw [h] at this; omega)
    have e2 : ((k : Int) != (k' : Int)) = true := by simp; omega
    have e3 : ¬ ((k : Int) = (k' : Int)) := by omega
    go_enter Try.func11, Try.ntmps11
    go_wp2
    refine wp_region_below (by kernel_rfl) (by kernel_rfl) ?_
    repeat (first | (refine wq_skip ?_ ?_; (focus (go_simp; (first | done | (simp [undef]; done)))); (try simp only [Act.put, List.setIfInBounds_toArray, List.set_cons_zero, List.set_cons_succ])) | (refine wq_val ?_ ?_; (focus (go_simp; done)); apply Exists.intro; refine ⟨fun w1 hw1 => ?_, ?_⟩; (obtain ⟨hc, hf⟩ := bcell hw1; clear hw1; go_simp; (first | done | with_reducible rfl | (with_reducible exact eql2 _ _ _) | (with_reducible exact neq2 _ _ _))); (try simp only [Act.put, List.setIfInBounds_toArray, List.set_cons_zero, List.set_cons_succ])) | (refine wq_call 21 ?_ ?_; (focus (go_simp; done)); apply Exists.intro; refine ⟨fun w1 hw1 => ?_, ?_⟩; (focus (clear hw1; go_simp; (first | done | with_reducible rfl))); apply Exists.intro; refine ⟨fun w1 hw1 => ?_, ?_⟩; (focus (exact calls_below hw1 (by have := same_l05 p q a.dr b.dr w1 (HP.out.below hw1) (HP'.out.below hw1); rw [r0] at this; exact this); done)); (try simp only [Act.put, List.setIfInBounds_toArray, List.set_cons_zero, List.set_cons_succ])))
    refine wq_nil ?_
    intro wc hbc
    have HC := Lib.hid hbc
    clear hbc
    go_wp2
    go_ret
    exact ⟨ret_bool' HR.out.symm, HC.out⟩
  · subst hkk
    have HR := Lib.hid (show samPc a b = decide (a.vs = b.vs) by unfold samPc; rw [r0]; rfl)
    go_enter Try.func11, Try.ntmps11
    go_wp2
    refine wp_region_below (by kernel_rfl) (by kernel_rfl) ?_
    repeat (first | (refine wq_skip ?_ ?_; (focus (go_simp; (first | done | (simp [undef]; done)))); (try simp only [Act.put, List.setIfInBounds_toArray, List.set_cons_zero, List.set_cons_succ])) | (refine wq_val ?_ ?_; (focus (go_simp; done)); apply Exists.intro; refine ⟨fun w1 hw1 => ?_, ?_⟩; (obtain ⟨hc, hf⟩ := bcell hw1; clear hw1; go_simp; (first | done | with_reducible rfl | (with_reducible exact eql2 _ _ _) | (with_reducible exact neq2 _ _ _))); (try simp only [Act.put, List.setIfInBounds_toArray, List.set_cons_zero, List.set_cons_succ])) | (refine wq_call 21 ?_ ?_; (focus (go_simp; done)); apply Exists.intro; refine ⟨fun w1 hw1 => ?_, ?_⟩; (focus (clear hw1; go_simp; (first | done | with_reducible rfl))); apply Exists.intro; refine ⟨fun w1 hw1 => ?_, ?_⟩; (focus (exact calls_below hw1 (by have := same_l05 p q a.dr b.dr w1 (HP.out.below hw1) (HP'.out.below hw1); rw [r0] at this; exact this); done)); (try simp only [Act.put, List.setIfInBounds_toArray, List.set_cons_zero, List.set_cons_succ])))
    refine wq_nil ?_
    intro wc hbc
    have HC := Lib.hid hbc
    clear hbc
    go_wp2
    clear c4 d4
    have hk1 : k ≤ 1048576 := HK.out.1
    go_loopw [5] (fun iv wr => ∃ j : Nat, j ≤ k ∧ iv = .int .i64 j ∧ Hid (a.vs.take j = b.vs.take j) ∧ Hid (Below w.heap.size w wr)) (fun i _ => k - (intOf i).toNat)
    case atStart => exact ⟨0, by omega, rfl, Lib.hid rfl, HC⟩
    case round =>
      obtain ⟨j, hj, rfl, he, hw⟩ := hrel
      have hob := HQ.out.keep (hw.out.block p hpw)
      have hob' := HQ'.out.keep (hw.out.block q hqw)
      have hpr := hob.lt
      have hqr := hob'.lt
      have c4 := hob.c4
      have d4 := hob'.c4
      clear hob hob'
      by_cases hlt : j < k
      · have hka : j < a.vs.length := by have := HZ.out; omega
        have hkb : j < b.vs.length := by have := HZ.out; omega
        obtain ⟨ab, rfl, hpa⟩ := (HV.out.below hw.out).2.resolve_left (by omega)
        obtain ⟨bb, rfl, hpb⟩ := (HV'.out.below hw.out).2.resolve_left (by omega)
        obtain ⟨haw, aa0, aa1, aa2⟩ := hpa j hlt
        obtain ⟨hbw, bb0, bb1, bb2⟩ := hpb j hlt
        clear hpa hpb
        obtain ⟨z, hz⟩ : ∃ z, a.vs.getD j vn0 = z := ⟨_, rfl⟩
        obtain ⟨z', hz'⟩ : ∃ z', b.vs.getD j vn0 = z' := ⟨_, rfl⟩
        rw [hz] at aa0 aa1 aa2
        rw [hz'] at bb0 bb1 bb2
        have HZ1 := Lib.hid hz
        have HZ2 := Lib.hid hz'
        clear hz hz'
        obtain ⟨x0, x1, x2⟩ := z
        obtain ⟨y0, y1, y2⟩ := z'
        simp only at aa0 aa1 aa2 bb0 bb1 bb2
        by_cases h0 : x0 = y0
        rotate_left
        · have HNE := Lib.hid (show decide (a.vs = b.vs) = false by
            simp; intro h; rw [h] at HZ1; have := HZ1.out.symm.trans HZ2.out; simp only [Prod.mk.injEq] at this; exact h0 this.1)
          have n0 := tol_ne h0
          have n1 : (x0.toList == y0.toList) = false := by simpa using n0
          go_wp2
          refine wp_region_below (by kernel_rfl) (by kernel_rfl) ?_
          repeat (first | (refine wq_skip ?_ ?_; (focus (go_simp; (first | done | (simp [undef]; done)))); (try simp only [Act.put, List.setIfInBounds_toArray, List.set_cons_zero, List.set_cons_succ])) | (refine wq_val ?_ ?_; (focus (go_simp; done)); apply Exists.intro; refine ⟨fun w1 hw1 => ?_, ?_⟩; (obtain ⟨hc, hf⟩ := bcell hw1; clear hw1; go_simp; (first | done | with_reducible rfl | (with_reducible exact eql2 _ _ _) | (with_reducible exact neq2 _ _ _))); (try simp only [Act.put, List.setIfInBounds_toArray, List.set_cons_zero, List.set_cons_succ])))
          refine wq_nil ?_
          intro w1 hb1
          have HB1 := Lib.hid hb1
          clear hb1
          go_wp2
          go_ret
          exact ⟨ret_bool' (by rw [HR.out, HNE.out]), bseq hw.out HB1.out⟩
        subst h0
        by_cases h1 : x1 = y1
        rotate_left
        · have HNE := Lib.hid (show decide (a.vs = b.vs) = false by
            simp; intro h; rw [h] at HZ1; have := HZ1.out.symm.trans HZ2.out; simp only [Prod.mk.injEq] at this; exact h1 this.2.1)
          have n1 : (x1 == y1) = false := by simpa using h1
          have n2 : decide (x1 = y1) = false := by simpa using h1
          go_wp2
          refine wp_region_below (by kernel_rfl) (by kernel_rfl) ?_
          repeat (first | (refine wq_skip ?_ ?_; (focus (go_simp; (first | done | (simp [undef]; done)))); (try simp only [Act.put, List.setIfInBounds_toArray, List.set_cons_zero, List.set_cons_succ])) | (refine wq_val ?_ ?_; (focus (go_simp; done)); apply Exists.intro; refine ⟨fun w1 hw1 => ?_, ?_⟩; (obtain ⟨hc, hf⟩ := bcell hw1; clear hw1; go_simp; (first | done | with_reducible rfl | (with_reducible exact eql2 _ _ _) | (with_reducible exact neq2 _ _ _))); (try simp only [Act.put, List.setIfInBounds_toArray, List.set_cons_zero, List.set_cons_succ])))
          refine wq_nil ?_
          intro w1 hb1
          have HB1 := Lib.hid hb1
          clear hb1
          go_wp2
          go_ret
          exact ⟨ret_bool' (by rw [HR.out, HNE.out]), bseq hw.out HB1.out⟩
        subst h1
        by_cases h2 : x2 = y2
        rotate_left
        · have HNE := Lib.hid (show decide (a.vs = b.vs) = false by
            simp; intro h; rw [h] at HZ1; have := HZ1.out.symm.trans HZ2.out; simp only [Prod.mk.injEq] at this; exact h2 this.2.2)
          have n1 : (x2 == y2) = false := by simpa using h2
          have n2 : decide (x2 = y2) = false := by simpa using h2
          go_wp2
          refine wp_region_below (by kernel_rfl) (by kernel_rfl) ?_
          repeat (first | (refine wq_skip ?_ ?_; (focus (go_simp; (first | done | (simp [undef]; done)))); (try simp only [Act.put, List.setIfInBounds_toArray, List.set_cons_zero, List.set_cons_succ])) | (refine wq_val ?_ ?_; (focus (go_simp; done)); apply Exists.intro; refine ⟨fun w1 hw1 => ?_, ?_⟩; (obtain ⟨hc, hf⟩ := bcell hw1; clear hw1; go_simp; (first | done | with_reducible rfl | (with_reducible exact eql2 _ _ _) | (with_reducible exact neq2 _ _ _))); (try simp only [Act.put, List.setIfInBounds_toArray, List.set_cons_zero, List.set_cons_succ])))
          refine wq_nil ?_
          intro w1 hb1
          have HB1 := Lib.hid hb1
          clear hb1
          go_wp2
          go_ret
          exact ⟨ret_bool' (by rw [HR.out, HNE.out]), bseq hw.out HB1.out⟩
        subst h2
        go_wp2
        refine wp_region_below (by kernel_rfl) (by kernel_rfl) ?_
        repeat (first | (refine wq_skip ?_ ?_; (focus (go_simp; (first | done | (simp [undef]; done)))); (try simp only [Act.put, List.setIfInBounds_toArray, List.set_cons_zero, List.set_cons_succ])) | (refine wq_val ?_ ?_; (focus (go_simp; done)); apply Exists.intro; refine ⟨fun w1 hw1 => ?_, ?_⟩; (obtain ⟨hc, hf⟩ := bcell hw1; clear hw1; go_simp; (first | done | with_reducible rfl | (with_reducible exact eql2 _ _ _) | (with_reducible exact neq2 _ _ _))); (try simp only [Act.put, List.setIfInBounds_toArray, List.set_cons_zero, List.set_cons_succ])))
        refine wq_nil ?_
        intro w1 hb1
        have HB1 := Lib.hid hb1
        clear hb1
        go_wp2
        go_roundw
        case rel => exact ⟨j + 1, by omega, by go_num, Lib.hid (take_eq_succVn hka hkb he.out (HZ1.out.trans HZ2.out.symm)), Lib.hid (bseq hw.out HB1.out)⟩
        case measure => simp [intOf]; omega
      · obtain rfl : j = k := by omega
        have HD := Lib.hid (show decide (a.vs = b.vs) = true by simp; exact take_eq_allVn HZ.out.1.symm HZ.out.2.symm he.out)
        go_wp2
        go_ret
        exact ⟨ret_bool' (by rw [HR.out, HD.out]), hw.out⟩
set_option maxRecDepth 100000 in
set_option maxHeartbeats 1000000 in
theorem samp_spec (u v : Value) (a b : Pc) (w : World) (ha : PcV w u a) (hb : PcV w v b) : Calls Try.prog 5 #[u, v] w fun e w' => e = .returned (.bool (samPc a b)) ∧ Below w.heap.size w w' := by
  obtain ⟨c, rfl, hp⟩ := ha.box
  obtain ⟨d, rfl, hq⟩ := (hb.below (one_alloc (w := w) (.cells c 37))).box
  have e : (w.alloc (.cells c 37)).heap.size = w.heap.size + 1 := by simp
  rw [e] at hq
  have HP := Lib.hid (hp.below (one_alloc (w := w.alloc (.cells c 37)) (.cells d 37)))
  have HQ := Lib.hid hq
  clear ha hb hp hq e
  go_enter Try.func5, Try.ntmps5
  go_wp2_with fail
  refine (samp_l08 _ _ a b _ HP.out HQ.out).mono ?_
  rintro e w1 ⟨rfl, g1⟩
  have HG := Lib.hid (bseq (two_allocs _ _) g1)
  clear g1
  go_wp2
  go_ret
  exact ⟨rfl, HG.out⟩
end Go.Proofs.Ytkmmhkhbpfkmcaa
