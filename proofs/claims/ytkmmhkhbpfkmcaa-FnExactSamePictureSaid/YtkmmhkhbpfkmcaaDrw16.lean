/- Are two drawings equal: spec. -/
import Derived.Test.YtkmmhkhbpfkmcaaDrw15
namespace Go.Proofs.Ytkmmhkhbpfkmcaa
open Seq2 Go.ChangeShapes Go.WideShapes Go.ChangeAt Go.RowKit
set_option linter.unusedVariables false
set_option linter.unusedSimpArgs false

set_option maxRecDepth 100000 in
set_option maxHeartbeats 8000000 in
theorem same_l05 (p q : Nat) (A B : Drw) (w : World) (ha : DP w p A) (hb : DP w q B) : Calls Try.prog 21 #[.pointer (some ⟨p, 0, none⟩), .pointer (some ⟨q, 0, none⟩)] w fun e w' => e = .returned (.bool (samD A B)) ∧ Below w.heap.size w w' := by
  obtain ⟨ao, n, c, bo, m, d, hq, _, _, hs, hp, hf⟩ := ha.out
  obtain ⟨ao', n', c', bo', m', d', hq', _, _, hs', hp', hf'⟩ := hb.out
  have HP := Lib.hid hp
  have HP' := Lib.hid hp'
  have HF := Lib.hid hf
  have HF' := Lib.hid hf'
  have HQ := Lib.hid hq
  have HQ' := Lib.hid hq'
  have hn : n ≤ 1048576 := by have := hp.1; unfold dSz at hs; omega
  have hn' : n' ≤ 1048576 := by have := hp'.1; unfold dSz at hs'; omega
  have hm : m ≤ 1048576 := by have := hf.1; unfold dSz fsSz at hs; omega
  have hm' : m' ≤ 1048576 := by have := hf'.1; unfold dSz fsSz at hs'; omega
  have HM := Lib.hid (And.intro hf.1 hf'.1)
  have HS := Lib.hid (show fsSz A.fs ≤ 1048576 by unfold dSz at hs; omega)
  have HS' := Lib.hid (show fsSz B.fs ≤ 1048576 by unfold dSz at hs'; omega)
  have HR0 := Lib.hid (show samD A B = (decide (A.wd = B.wd) && decide (A.hg = B.hg) && decide (A.ps = B.ps) && fsE A.fs B.fs) from rfl)
  have hpw := hq.lt
  have hqw := hq'.lt
  obtain ⟨c0, _, c1, _, c2, _, c3, _⟩ := hq.cells
  obtain ⟨d0, _, d1, _, d2, _, d3, _⟩ := hq'.cells
  clear ha hb hp hp' hf hf' hs hs' hq hq'
  generalize A.wd = aw at *
  generalize A.hg = ah at *
  generalize B.wd = bw at *
  generalize B.hg = bh at *
  by_cases h1 : aw = bw
  rotate_left
  · have HR := Lib.hid (HR0.out.trans (by simp [h1]) : samD A B = false)
    have e2 : (aw != bw) = true := by simpa using h1
    go_enter Try.func21, Try.ntmps21
    go_wp2
    refine wp_region_below (by kernel_rfl) (by kernel_rfl) ?_
    repeat (first | (refine wq_skip ?_ ?_; (focus (go_simp; (first | done | (simp [undef]; done)))); (try simp only [Act.put, List.setIfInBounds_toArray, List.set_cons_zero, List.set_cons_succ])) | (refine wq_val ?_ ?_; (focus (go_simp; done)); apply Exists.intro; refine ⟨fun w1 hw1 => ?_, ?_⟩; (obtain ⟨hc, hf⟩ := bcell hw1; clear hw1; go_simp; (first | done | with_reducible rfl | (with_reducible exact eql2 _ _ _) | (with_reducible exact neq2 _ _ _))); (try simp only [Act.put, List.setIfInBounds_toArray, List.set_cons_zero, List.set_cons_succ])))
    refine wq_nil ?_
    intro wc hbc
    have HC := Lib.hid hbc
    clear hbc
    go_wp2
    go_ret
    exact ⟨ret_bool' HR.out.symm, HC.out⟩
  · subst h1
    by_cases h1 : ah = bh
    rotate_left
    · have HR := Lib.hid (HR0.out.trans (by simp [h1]) : samD A B = false)
      have e2 : (ah != bh) = true := by simpa using h1
      go_enter Try.func21, Try.ntmps21
      go_wp2
      refine wp_region_below (by kernel_rfl) (by kernel_rfl) ?_
      repeat (first | (refine wq_skip ?_ ?_; (focus (go_simp; (first | done | (simp [undef]; done)))); (try simp only [Act.put, List.setIfInBounds_toArray, List.set_cons_zero, List.set_cons_succ])) | (refine wq_val ?_ ?_; (focus (go_simp; done)); apply Exists.intro; refine ⟨fun w1 hw1 => ?_, ?_⟩; (obtain ⟨hc, hf⟩ := bcell hw1; clear hw1; go_simp; (first | done | with_reducible rfl | (with_reducible exact eql2 _ _ _) | (with_reducible exact neq2 _ _ _))); (try simp only [Act.put, List.setIfInBounds_toArray, List.set_cons_zero, List.set_cons_succ])))
      refine wq_nil ?_
      intro wc hbc
      have HC := Lib.hid hbc
      clear hbc
      go_wp2
      go_ret
      exact ⟨ret_bool' HR.out.symm, HC.out⟩
    · subst h1
      cases hq : decide (A.ps = B.ps) with
      | false =>
        have HR := Lib.hid (HR0.out.trans (by rw [hq]; simp) : samD A B = false)
        go_enter Try.func21, Try.ntmps21
        go_wp2
        refine wp_region_below (by kernel_rfl) (by kernel_rfl) ?_
        repeat (first | (refine wq_skip ?_ ?_; (focus (go_simp; (first | done | (simp [undef]; done)))); (try simp only [Act.put, List.setIfInBounds_toArray, List.set_cons_zero, List.set_cons_succ])) | (refine wq_val ?_ ?_; (focus (go_simp; done)); apply Exists.intro; refine ⟨fun w1 hw1 => ?_, ?_⟩; (obtain ⟨hc, hf⟩ := bcell hw1; clear hw1; go_simp; (first | done | with_reducible rfl | (with_reducible exact eql2 _ _ _) | (with_reducible exact neq2 _ _ _))); (try simp only [Act.put, List.setIfInBounds_toArray, List.set_cons_zero, List.set_cons_succ])) | (refine wq_call 32 ?_ ?_; (focus (go_simp; done)); apply Exists.intro; refine ⟨fun w1 hw1 => ?_, ?_⟩; (focus (clear hw1; go_simp; (first | done | with_reducible rfl))); apply Exists.intro; refine ⟨fun w1 hw1 => ?_, ?_⟩; (focus (exact calls_below hw1 (by have := equal_spec _ _ n n' c c' A.ps B.ps w1 hn hn' (HP.out.below hw1) (HP'.out.below hw1); rw [hq] at this; exact this); done)); (try simp only [Act.put, List.setIfInBounds_toArray, List.set_cons_zero, List.set_cons_succ])))
        refine wq_nil ?_
        intro wc hbc
        have HC := Lib.hid hbc
        clear hbc
        go_wp2
        go_ret
        exact ⟨ret_bool' HR.out.symm, HC.out⟩
      | true =>
      by_cases hmm : m = m'
      rotate_left
      · have hlen : decide (A.fs.length = B.fs.length) = false := by have := HM.out; simp; omega
        have HR := Lib.hid (HR0.out.trans (by rw [hq]; unfold fsE; rw [hlen]; simp) : samD A B = false)
        clear hlen
        have e2 : ((m : Int) != (m' : Int)) = true := by simp; omega
        have e3 : ¬ ((m : Int) = (m' : Int)) := by omega
        go_enter Try.func21, Try.ntmps21
        go_wp2
        refine wp_region_below (by kernel_rfl) (by kernel_rfl) ?_
        repeat (first | (refine wq_skip ?_ ?_; (focus (go_simp; (first | done | (simp [undef]; done)))); (try simp only [Act.put, List.setIfInBounds_toArray, List.set_cons_zero, List.set_cons_succ])) | (refine wq_val ?_ ?_; (focus (go_simp; done)); apply Exists.intro; refine ⟨fun w1 hw1 => ?_, ?_⟩; (obtain ⟨hc, hf⟩ := bcell hw1; clear hw1; go_simp; (first | done | with_reducible rfl | (with_reducible exact eql2 _ _ _) | (with_reducible exact neq2 _ _ _))); (try simp only [Act.put, List.setIfInBounds_toArray, List.set_cons_zero, List.set_cons_succ])) | (refine wq_call 32 ?_ ?_; (focus (go_simp; done)); apply Exists.intro; refine ⟨fun w1 hw1 => ?_, ?_⟩; (focus (clear hw1; go_simp; (first | done | with_reducible rfl))); apply Exists.intro; refine ⟨fun w1 hw1 => ?_, ?_⟩; (focus (exact calls_below hw1 (by have := equal_spec _ _ n n' c c' A.ps B.ps w1 hn hn' (HP.out.below hw1) (HP'.out.below hw1); rw [hq] at this; exact this); done)); (try simp only [Act.put, List.setIfInBounds_toArray, List.set_cons_zero, List.set_cons_succ])))
        refine wq_nil ?_
        intro wc hbc
        have HC := Lib.hid hbc
        clear hbc
        go_wp2
        go_ret
        exact ⟨ret_bool' HR.out.symm, HC.out⟩
      · subst hmm
        have hlen : decide (A.fs.length = B.fs.length) = true := by have := HM.out; simp; omega
        have HR := Lib.hid (HR0.out.trans (by rw [hq]; unfold fsE; rw [hlen, ← HM.out.1]; simp) : samD A B = allTo (fun j => fcE (A.fs.getD j fc0) (B.fs.getD j fc0)) m)
        clear hlen
        go_enter Try.func21, Try.ntmps21
        go_wp2
        refine wp_region_below (by kernel_rfl) (by kernel_rfl) ?_
        repeat (first | (refine wq_skip ?_ ?_; (focus (go_simp; (first | done | (simp [undef]; done)))); (try simp only [Act.put, List.setIfInBounds_toArray, List.set_cons_zero, List.set_cons_succ])) | (refine wq_val ?_ ?_; (focus (go_simp; done)); apply Exists.intro; refine ⟨fun w1 hw1 => ?_, ?_⟩; (obtain ⟨hc, hf⟩ := bcell hw1; clear hw1; go_simp; (first | done | with_reducible rfl | (with_reducible exact eql2 _ _ _) | (with_reducible exact neq2 _ _ _))); (try simp only [Act.put, List.setIfInBounds_toArray, List.set_cons_zero, List.set_cons_succ])) | (refine wq_call 32 ?_ ?_; (focus (go_simp; done)); apply Exists.intro; refine ⟨fun w1 hw1 => ?_, ?_⟩; (focus (clear hw1; go_simp; (first | done | with_reducible rfl))); apply Exists.intro; refine ⟨fun w1 hw1 => ?_, ?_⟩; (focus (exact calls_below hw1 (by have := equal_spec _ _ n n' c c' A.ps B.ps w1 hn hn' (HP.out.below hw1) (HP'.out.below hw1); rw [hq] at this; exact this); done)); (try simp only [Act.put, List.setIfInBounds_toArray, List.set_cons_zero, List.set_cons_succ])))
        refine wq_nil ?_
        intro wc hbc
        have HC := Lib.hid hbc
        clear hbc
        go_wp2
        clear c0 c1 c2 c3 d0 d1 d2 d3
        go_loopw [5] (fun iv wr => ∃ k : Nat, k ≤ m ∧ iv = .int .i64 k ∧ Hid (allTo (fun j => fcE (A.fs.getD j fc0) (B.fs.getD j fc0)) k = true) ∧ Hid (Below w.heap.size w wr)) (fun i _ => m - (intOf i).toNat)
        case atStart => exact ⟨0, by omega, rfl, Lib.hid rfl, HC⟩
        case round =>
          obtain ⟨k, hk, rfl, he, hw⟩ := hrel
          have hob := HQ.out.keep (hw.out.block p hpw)
          have hob' := HQ'.out.keep (hw.out.block q hqw)
          have hpr := hob.lt
          have hqr := hob'.lt
          obtain ⟨_, _, _, _, _, _, c3, _⟩ := hob.cells
          obtain ⟨_, _, _, _, _, _, d3, _⟩ := hob'.cells
          clear hob hob'
          by_cases hlt : k < m
          · have hka : k < A.fs.length := by have := HM.out; omega
            have hkb : k < B.fs.length := by have := HM.out; omega
            have hl1 := fcs_le HS.out hka
            have hl2 := fcs_le HS'.out hkb
            obtain ⟨a, s, r, a1, n1, c1, rfl, haw, e1, _, x0, x1, en1, hi1⟩ := (HF.out.below hw.out).at hlt
            obtain ⟨b, s', r', b1, n2, d1, rfl, hbw, e2, _, y0, y1, en2, hi2⟩ := (HF'.out.below hw.out).at hlt
            have hn1 : n1 ≤ 1048576 := by omega
            have hn2 : n2 ≤ 1048576 := by omega
            have HE := Lib.hid (show fcE (A.fs.getD k fc0) (B.fs.getD k fc0) = ((s.toList == s'.toList) && decide (r = r')) by rw [e1, e2]; rfl)
            have HI1 := Lib.hid hi1
            have HI2 := Lib.hid hi2
            clear e1 e2 en1 en2 hl1 hl2 hi1 hi2
            cases ht : (s.toList == s'.toList) with
            | false =>
              have HRR := Lib.hid (HR.out.trans (allTo_bad hlt (HE.out.trans (by rw [ht]; rfl))))
              have ht2 : (s.toList != s'.toList) = true := by unfold bne; rw [ht]; rfl
              go_wp2
              refine wp_region_below (by kernel_rfl) (by kernel_rfl) ?_
              repeat (first | (refine wq_skip ?_ ?_; (focus (go_simp; (first | done | (simp [undef]; done)))); (try simp only [Act.put, List.setIfInBounds_toArray, List.set_cons_zero, List.set_cons_succ])) | (refine wq_val ?_ ?_; (focus (go_simp; done)); apply Exists.intro; refine ⟨fun w1 hw1 => ?_, ?_⟩; (obtain ⟨hc, hf⟩ := bcell hw1; clear hw1; go_simp; (first | done | with_reducible rfl | (with_reducible exact eql2 _ _ _) | (with_reducible exact neq2 _ _ _))); (try simp only [Act.put, List.setIfInBounds_toArray, List.set_cons_zero, List.set_cons_succ])))
              refine wq_nil ?_
              intro wd hbd
              have HD := Lib.hid (bseq hw.out hbd)
              clear hbd
              go_wp2
              go_ret
              exact ⟨ret_bool' HRR.out.symm, HD.out⟩
            | true =>
              have ht2 : (s.toList != s'.toList) = false := by unfold bne; rw [ht]; rfl
              cases hrr : decide (r = r') with
              | false =>
                have HRR := Lib.hid (HR.out.trans (allTo_bad hlt (HE.out.trans (by rw [ht, hrr]; rfl))))
                go_wp2
                refine wp_region_below (by kernel_rfl) (by kernel_rfl) ?_
                repeat (first | (refine wq_skip ?_ ?_; (focus (go_simp; (first | done | (simp [undef]; done)))); (try simp only [Act.put, List.setIfInBounds_toArray, List.set_cons_zero, List.set_cons_succ])) | (refine wq_val ?_ ?_; (focus (go_simp; done)); apply Exists.intro; refine ⟨fun w1 hw1 => ?_, ?_⟩; (obtain ⟨hc, hf⟩ := bcell hw1; clear hw1; go_simp; (first | done | with_reducible rfl | (with_reducible exact eql2 _ _ _) | (with_reducible exact neq2 _ _ _))); (try simp only [Act.put, List.setIfInBounds_toArray, List.set_cons_zero, List.set_cons_succ])) | (refine wq_call 33 ?_ ?_; (focus (go_simp; done)); apply Exists.intro; refine ⟨fun w1 hw1 => ?_, ?_⟩; (focus (clear hw1; go_simp; (first | done | with_reducible rfl))); apply Exists.intro; refine ⟨fun w1 hw1 => ?_, ?_⟩; (focus (exact calls_below hw1 (by have := same00_any a1 b1 n1 n2 c1 d1 r r' w1 hn1 hn2 (HI1.out.below hw1) (HI2.out.below hw1); rw [hrr] at this; exact this); done)); (try simp only [Act.put, List.setIfInBounds_toArray, List.set_cons_zero, List.set_cons_succ])))
                refine wq_nil ?_
                intro wd hbd
                have HD := Lib.hid (bseq hw.out hbd)
                clear hbd
                go_wp2
                go_ret
                exact ⟨ret_bool' HRR.out.symm, HD.out⟩
              | true =>
                have HN := Lib.hid (allTo_succ he.out (HE.out.trans (by rw [ht, hrr]; rfl)))
                go_wp2
                refine wp_region_below (by kernel_rfl) (by kernel_rfl) ?_
                repeat (first | (refine wq_skip ?_ ?_; (focus (go_simp; (first | done | (simp [undef]; done)))); (try simp only [Act.put, List.setIfInBounds_toArray, List.set_cons_zero, List.set_cons_succ])) | (refine wq_val ?_ ?_; (focus (go_simp; done)); apply Exists.intro; refine ⟨fun w1 hw1 => ?_, ?_⟩; (obtain ⟨hc, hf⟩ := bcell hw1; clear hw1; go_simp; (first | done | with_reducible rfl | (with_reducible exact eql2 _ _ _) | (with_reducible exact neq2 _ _ _))); (try simp only [Act.put, List.setIfInBounds_toArray, List.set_cons_zero, List.set_cons_succ])) | (refine wq_call 33 ?_ ?_; (focus (go_simp; done)); apply Exists.intro; refine ⟨fun w1 hw1 => ?_, ?_⟩; (focus (clear hw1; go_simp; (first | done | with_reducible rfl))); apply Exists.intro; refine ⟨fun w1 hw1 => ?_, ?_⟩; (focus (exact calls_below hw1 (by have := same00_any a1 b1 n1 n2 c1 d1 r r' w1 hn1 hn2 (HI1.out.below hw1) (HI2.out.below hw1); rw [hrr] at this; exact this); done)); (try simp only [Act.put, List.setIfInBounds_toArray, List.set_cons_zero, List.set_cons_succ])))
                refine wq_nil ?_
                intro wd hbd
                have HD := Lib.hid (bseq hw.out hbd)
                clear hbd
                go_wp2
                go_roundw
                case rel => exact ⟨k + 1, by omega, by go_num, HN, HD⟩
                case measure => simp [intOf]; omega
          · obtain rfl : k = m := by omega
            go_wp2
            go_ret
            exact ⟨ret_bool' (by rw [HR.out, he.out]), hw.out⟩
end Go.Proofs.Ytkmmhkhbpfkmcaa
