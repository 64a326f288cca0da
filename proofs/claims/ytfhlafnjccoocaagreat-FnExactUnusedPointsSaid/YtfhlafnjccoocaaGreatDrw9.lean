/- Is a drawing valid, in spec: the faces, the whole. -/
import Derived.Test.YtfhlafnjccoocaaGreatDrw8
import Derived.Laws.Cover1
namespace Go.Proofs.YtfhlafnjccoocaaGreat
open Seq2 Go.ChangeShapes Go.WideShapes Go.ChangeAt Go.RowKit
set_option linter.unusedVariables false
set_option linter.unusedSimpArgs false

theorem faces_bad {zs : List P2} {fs : List Fc} {i : Nat} (hi : i < fs.length) (h : faceB zs fs i = false) : facesB zs fs = false := by
  unfold facesB; rw [allTo_bad hi h]; simp
theorem newp_pv {w : World} {lo n : Nat} {v : Value} {zs : List P2} (hz : n = zs.length) (h : w.ownsRow lo 67 2 v n (flatP zs)) : ∃ ao cap, v = .slice ao n cap ∧ PV w ao n zs := by
  obtain ⟨ao, cap, e, _, hp⟩ := own_PV h
  exact ⟨ao, cap, e, hp⟩
set_option maxRecDepth 100000 in
set_option maxHeartbeats 8000000 in
theorem drOk_spec (q : Nat) (D : Drw) (w : World) (hd : DP w q D) : Calls Tryz.prog 15 #[.pointer (some ⟨q, 0, none⟩)] w fun e w' => e = .returned (.bool (drB D)) ∧ Below w.heap.size w w' := by
  obtain ⟨ao, n, c, bo, m, d, hq, _, _, hs, hp, hf⟩ := hd.out
  have HD := Lib.hid hd
  have HQ := Lib.hid hq
  have HF := Lib.hid hf
  have HZ := Lib.hid hf.1
  have HS := Lib.hid (show fsSz D.fs ≤ 1048576 by unfold dSz at hs; omega)
  have hm : m ≤ 1048576 := by have := hf.1; unfold dSz fsSz at hs; omega
  have hqw := hq.lt
  obtain ⟨c0, _, c1, _, c2, _, c3, _⟩ := hq.cells
  have HB := Lib.hid (show drB D = (inI D.wd 10 20000 && inI D.hg 10 20000 && ptsB D.wd D.hg D.ps && facesB D.ps D.fs) from rfl)
  clear hd hq hp hs hf
  cases hw : inI D.wd 10 20000 with
  | false =>
    have HR := Lib.hid (show drB D = false by rw [HB.out, hw]; simp)
    go_enter Tryz.func15, Tryz.ntmps15
    go_wp2_with fail
    refine (in_any _ _ _ _).mono ?_
    rintro e w1 ⟨rfl, rfl⟩
    go_wp2
    go_ret
    exact ⟨ret_bool' HR.out.symm, Below.refl _ _⟩
  | true =>
  cases hh : inI D.hg 10 20000 with
  | false =>
    have HR := Lib.hid (show drB D = false by rw [HB.out, hw, hh]; simp)
    go_enter Tryz.func15, Tryz.ntmps15
    go_wp2_with fail
    refine (in_any _ _ _ _).mono ?_
    rintro e w1 ⟨rfl, rfl⟩
    go_wp2_with fail
    refine (in_any _ _ _ _).mono ?_
    rintro e w1 ⟨rfl, rfl⟩
    go_wp2
    go_ret
    exact ⟨ret_bool' HR.out.symm, Below.refl _ _⟩
  | true =>
  cases hpt : ptsB D.wd D.hg D.ps with
  | false =>
    have HR := Lib.hid (show drB D = false by rw [HB.out, hw, hh, hpt]; simp)
    go_enter Tryz.func15, Tryz.ntmps15
    go_wp2_with fail
    refine (in_any _ _ _ _).mono ?_
    rintro e w1 ⟨rfl, rfl⟩
    go_wp2_with fail
    refine (in_any _ _ _ _).mono ?_
    rintro e w1 ⟨rfl, rfl⟩
    go_wp2_with fail
    refine (points_spec q D _ HD.out).mono ?_
    rintro e w2 ⟨rfl, g2⟩
    have HG := Lib.hid g2
    clear g2
    go_wp2
    go_ret
    exact ⟨ret_bool' HR.out.symm, HG.out⟩
  | true =>
  by_cases h24 : m ≤ 24
  rotate_left
  · have HR := Lib.hid (show drB D = false by rw [HB.out, hw, hh, hpt]; unfold facesB; rw [decide_eq_false (by have := HZ.out; omega)]; simp)
    have hd24 : decide (24 < (m : Int)) = true := by simp; omega
    go_enter Tryz.func15, Tryz.ntmps15
    go_wp2_with fail
    refine (in_any _ _ _ _).mono ?_
    rintro e w1 ⟨rfl, rfl⟩
    go_wp2_with fail
    refine (in_any _ _ _ _).mono ?_
    rintro e w1 ⟨rfl, rfl⟩
    go_wp2_with fail
    refine (points_spec q D _ HD.out).mono ?_
    rintro e w2 ⟨rfl, g2⟩
    have HG := Lib.hid g2
    obtain ⟨k2, _⟩ := bcell g2
    have hq2 : q < w2.heap.size := by have := g2.size; omega
    clear g2
    go_wp2
    go_ret
    exact ⟨ret_bool' HR.out.symm, HG.out⟩
  · have HR := Lib.hid (show drB D = facesB D.ps D.fs by rw [HB.out, hw, hh, hpt]; simp)
    have hd24 : decide (24 < (m : Int)) = false := by simp; omega
    go_enter Tryz.func15, Tryz.ntmps15
    go_wp2_with fail
    refine (in_any _ _ _ _).mono ?_
    rintro e w1 ⟨rfl, rfl⟩
    go_wp2_with fail
    refine (in_any _ _ _ _).mono ?_
    rintro e w1 ⟨rfl, rfl⟩
    go_wp2_with fail
    refine (points_spec q D _ HD.out).mono ?_
    rintro e w2 ⟨rfl, g2⟩
    have HG := Lib.hid g2
    obtain ⟨k2, _⟩ := bcell g2
    have hq2 : q < w2.heap.size := by have := g2.size; omega
    clear g2
    go_wp2
    clear k2 hq2
    go_loopw [3] (fun iv wr => ∃ (i : Nat), i ≤ m ∧ iv = .int .i64 i ∧ Hid (allTo (faceB D.ps D.fs) i = true) ∧ Hid (Below w.heap.size w wr)) (fun i _ => m - (intOf i).toNat)
    case atStart => exact ⟨0, by omega, rfl, Lib.hid rfl, HG⟩
    case round =>
      obtain ⟨i, hi, rfl, ha, hb⟩ := hrel
      have hob := HQ.out.keep (hb.out.block q HQ.out.lt)
      have hqr := hob.lt
      clear c0 c1 c2 c3
      obtain ⟨_, _, _, _, _, _, c3, _⟩ := hob.cells
      clear hob
      by_cases hlt : i < m
      · have hiz : i < D.fs.length := by have := HZ.out; omega
        have hFr := HF.out.below hb.out
        obtain ⟨fb, s, r, a1, n1, c1', rfl, hfb, e1, hs1, x0, x1, en1, hi1⟩ := hFr.at hlt
        have hln := fcs_le HS.out hiz
        rw [e1] at hln
        have HI1 := Lib.hid hi1
        have hn1 : n1 ≤ 1048576 := by omega
        have hrl : r.length ≤ 1048576 := by have := hi1.1; omega
        have HFB := Lib.hid (show faceB D.ps D.fs i = (nameB s && ordB D.fs i && ringB D.ps r) by unfold faceB; rw [e1])
        have HORD := Lib.hid (show ordB D.fs i = (decide (i = 0) || lessB (D.fs.getD (i - 1) fc0).1 s) by unfold ordB; rw [e1])
        clear en1 hln hi1 e1
        cases hnm : nameB s with
        | false =>
          have HRR := Lib.hid (HR.out.trans (faces_bad hiz (HFB.out.trans (by rw [hnm]; simp))))
          clear hFr
          go_wp2
          refine wp_region_below (by kernel_rfl) (by kernel_rfl) ?_
          repeat (first | (refine wq_skip ?_ ?_; (focus (go_simp; (first | done | (simp [undef]; done)))); (try simp only [Act.put, List.setIfInBounds_toArray, List.set_cons_zero, List.set_cons_succ])) | (refine wq_val ?_ ?_; (focus (go_simp; done)); apply Exists.intro; refine ⟨fun w1 hw1 => ?_, ?_⟩; (obtain ⟨hc, hf⟩ := bcell hw1; clear hw1; go_simp; (first | done | with_reducible rfl | (with_reducible exact eql2 _ _ _) | (with_reducible exact neq2 _ _ _))); (try simp only [Act.put, List.setIfInBounds_toArray, List.set_cons_zero, List.set_cons_succ])) | (refine wq_call 29 ?_ ?_; (focus (go_simp; done)); apply Exists.intro; refine ⟨fun w1 hw1 => ?_, ?_⟩; (focus (clear hw1; go_simp; (first | done | with_reducible rfl))); apply Exists.intro; refine ⟨fun w1 hw1 => ?_, ?_⟩; (focus (exact calls_below_same hw1 (name_l01 _ _ (by unfold maxLen; omega)); done)); (try simp only [Act.put, List.setIfInBounds_toArray, List.set_cons_zero, List.set_cons_succ])))
          refine wq_nil ?_
          intro wa hba
          have HA := Lib.hid (hb.out.trans (hba.mono hb.out.size))
          clear hba
          go_wp2
          go_ret
          exact ⟨ret_bool' HRR.out.symm, HA.out⟩
        | true =>
          have HORK : ∃ ob, ordB D.fs i = ob := ⟨_, rfl⟩
          obtain ⟨ob, hob⟩ := HORK
          have HOB := Lib.hid hob
          by_cases h0 : i = 0
          · obtain rfl : ob = true := by rw [← hob, HORD.out, h0]; rfl
            have hd0 : ¬ 0 < i := by omega
            have hd1 : decide (0 < i) = false := by simpa using h0
            have hd2 : ¬ ((0 : Int) < (i : Int)) := by omega
            clear hFr hob h0
            go_wp2
            refine wp_region_below (by kernel_rfl) (by kernel_rfl) ?_
            repeat (first | (refine wq_skip ?_ ?_; (focus (go_simp; (first | done | (simp [undef]; done)))); (try simp only [Act.put, List.setIfInBounds_toArray, List.set_cons_zero, List.set_cons_succ])) | (refine wq_val ?_ ?_; (focus (go_simp; done)); apply Exists.intro; refine ⟨fun w1 hw1 => ?_, ?_⟩; (obtain ⟨hc, hf⟩ := bcell hw1; clear hw1; go_simp; (first | done | with_reducible rfl | (with_reducible exact eql2 _ _ _) | (with_reducible exact neq2 _ _ _))); (try simp only [Act.put, List.setIfInBounds_toArray, List.set_cons_zero, List.set_cons_succ])) | (refine wq_call 29 ?_ ?_; (focus (go_simp; done)); apply Exists.intro; refine ⟨fun w1 hw1 => ?_, ?_⟩; (focus (clear hw1; go_simp; (first | done | with_reducible rfl))); apply Exists.intro; refine ⟨fun w1 hw1 => ?_, ?_⟩; (focus (exact calls_below_same hw1 (name_l01 _ _ (by unfold maxLen; omega)); done)); (try simp only [Act.put, List.setIfInBounds_toArray, List.set_cons_zero, List.set_cons_succ])))
            refine wq_nil ?_
            intro wa hba
            have HA := Lib.hid (hb.out.trans (hba.mono hb.out.size))
            have hqa : q < wa.heap.size := by have := hba.size; omega
            have hfa : fb < wa.heap.size := by have := hba.size; omega
            obtain ⟨ka, _⟩ := bcell hba
            have c3a := (ka q 3 hqr).trans c3
            have x1a := (ka fb (i * 2 + 1) hfb).trans x1
            have HIa := Lib.hid (HI1.out.below hba)
            clear hba ka
            go_wp2_with fail
            refine (ring_spec q D a1 n1 c1' r _ hn1 (HD.out.below HA.out) HIa.out).mono ?_
            rintro e wb ⟨v, rfl, hb2, hv2⟩
            have HB2 := Lib.hid (HA.out.trans (hb2.mono HA.out.size))
            cases hrg : ringIn D.ps r with
            | false =>
              have HRR := Lib.hid (HR.out.trans (faces_bad hiz (HFB.out.trans (by unfold ringB; rw [hrg]; simp))))
              clear hb2 hv2
              go_wp2
              go_ret
              exact ⟨ret_bool' HRR.out.symm, HB2.out⟩
            | true =>
              obtain ⟨ao3, cp3, rfl, hpv⟩ := newp_pv (ringZ_len D.ps r).symm (hv2 hrg)
              have HPV := Lib.hid hpv
              clear hb2 hv2 hpv
              go_wp2_with fail
              refine (ok3_any ao3 r.length cp3 (ringZ D.ps r) _ hrl HPV.out).mono ?_
              rintro e wc ⟨rfl, g3⟩
              have HB3 := Lib.hid (HB2.out.trans (g3.mono HB2.out.size))
              clear g3
              cases hpb : polyB (ringZ D.ps r) with
              | false =>
                have HRR := Lib.hid (HR.out.trans (faces_bad hiz (HFB.out.trans (by unfold ringB; rw [hpb]; simp))))
                go_wp2
                go_ret
                exact ⟨ret_bool' HRR.out.symm, HB3.out⟩
              | true =>
                have HT := Lib.hid (allTo_succ ha.out (HFB.out.trans (by unfold ringB; rw [hnm, HOB.out, hrg, hpb]; rfl)))
                go_wp2
                go_roundw
                case rel => exact ⟨i + 1, by omega, by go_num, HT, HB3⟩
                case measure => simp [intOf]; omega
          · obtain ⟨fb', s', r', a2, n2, c2', efb, _, e2, _, y0, _, _, _⟩ := hFr.at (k := i - 1) (by omega)
            cases efb
            have hlb : lessB s' s = ob := by rw [← hob, HORD.out, e2]; simp [h0]
            have q1 : IntKind.i64.wrap ((i : Int) - 1) = ((i - 1 : Nat) : Int) := by rw [IntWalk.i64_in _ (by omega)]; omega
            have hi1' : i - 1 < m := by omega
            have hd0 : 0 < i := by omega
            have hd1 : decide (0 < i) = true := by simpa using hd0
            have hd2 : (0 : Int) < (i : Int) := by omega
            unfold lessB at hlb
            clear hFr e2 hob
            cases ob with
            | false =>
              have HRR := Lib.hid (HR.out.trans (faces_bad hiz (HFB.out.trans (by rw [HOB.out]; simp))))
              go_wp2
              refine wp_region_below (by kernel_rfl) (by kernel_rfl) ?_
              repeat (first | (refine wq_skip ?_ ?_; (focus (go_simp; (first | done | (simp [undef]; done)))); (try simp only [Act.put, List.setIfInBounds_toArray, List.set_cons_zero, List.set_cons_succ])) | (refine wq_val ?_ ?_; (focus (go_simp; done)); apply Exists.intro; refine ⟨fun w1 hw1 => ?_, ?_⟩; (obtain ⟨hc, hf⟩ := bcell hw1; clear hw1; go_simp; (first | done | with_reducible rfl | (with_reducible exact eql2 _ _ _) | (with_reducible exact neq2 _ _ _))); (try simp only [Act.put, List.setIfInBounds_toArray, List.set_cons_zero, List.set_cons_succ])) | (refine wq_call 29 ?_ ?_; (focus (go_simp; done)); apply Exists.intro; refine ⟨fun w1 hw1 => ?_, ?_⟩; (focus (clear hw1; go_simp; (first | done | with_reducible rfl))); apply Exists.intro; refine ⟨fun w1 hw1 => ?_, ?_⟩; (focus (exact calls_below_same hw1 (name_l01 _ _ (by unfold maxLen; omega)); done)); (try simp only [Act.put, List.setIfInBounds_toArray, List.set_cons_zero, List.set_cons_succ])))
              refine wq_nil ?_
              intro wa hba
              have HA := Lib.hid (hb.out.trans (hba.mono hb.out.size))
              clear hba
              go_wp2
              go_ret
              exact ⟨ret_bool' HRR.out.symm, HA.out⟩
            | true =>
              go_wp2
              refine wp_region_below (by kernel_rfl) (by kernel_rfl) ?_
              repeat (first | (refine wq_skip ?_ ?_; (focus (go_simp; (first | done | (simp [undef]; done)))); (try simp only [Act.put, List.setIfInBounds_toArray, List.set_cons_zero, List.set_cons_succ])) | (refine wq_val ?_ ?_; (focus (go_simp; done)); apply Exists.intro; refine ⟨fun w1 hw1 => ?_, ?_⟩; (obtain ⟨hc, hf⟩ := bcell hw1; clear hw1; go_simp; (first | done | with_reducible rfl | (with_reducible exact eql2 _ _ _) | (with_reducible exact neq2 _ _ _))); (try simp only [Act.put, List.setIfInBounds_toArray, List.set_cons_zero, List.set_cons_succ])) | (refine wq_call 29 ?_ ?_; (focus (go_simp; done)); apply Exists.intro; refine ⟨fun w1 hw1 => ?_, ?_⟩; (focus (clear hw1; go_simp; (first | done | with_reducible rfl))); apply Exists.intro; refine ⟨fun w1 hw1 => ?_, ?_⟩; (focus (exact calls_below_same hw1 (name_l01 _ _ (by unfold maxLen; omega)); done)); (try simp only [Act.put, List.setIfInBounds_toArray, List.set_cons_zero, List.set_cons_succ])))
              refine wq_nil ?_
              intro wa hba
              have HA := Lib.hid (hb.out.trans (hba.mono hb.out.size))
              have hqa : q < wa.heap.size := by have := hba.size; omega
              have hfa : fb < wa.heap.size := by have := hba.size; omega
              obtain ⟨ka, _⟩ := bcell hba
              have c3a := (ka q 3 hqr).trans c3
              have x1a := (ka fb (i * 2 + 1) hfb).trans x1
              have HIa := Lib.hid (HI1.out.below hba)
              clear hba ka
              go_wp2_with fail
              refine (ring_spec q D a1 n1 c1' r _ hn1 (HD.out.below HA.out) HIa.out).mono ?_
              rintro e wb ⟨v, rfl, hb2, hv2⟩
              have HB2 := Lib.hid (HA.out.trans (hb2.mono HA.out.size))
              cases hrg : ringIn D.ps r with
              | false =>
                have HRR := Lib.hid (HR.out.trans (faces_bad hiz (HFB.out.trans (by unfold ringB; rw [hrg]; simp))))
                clear hb2 hv2
                go_wp2
                go_ret
                exact ⟨ret_bool' HRR.out.symm, HB2.out⟩
              | true =>
                obtain ⟨ao3, cp3, rfl, hpv⟩ := newp_pv (ringZ_len D.ps r).symm (hv2 hrg)
                have HPV := Lib.hid hpv
                clear hb2 hv2 hpv
                go_wp2_with fail
                refine (ok3_any ao3 r.length cp3 (ringZ D.ps r) _ hrl HPV.out).mono ?_
                rintro e wc ⟨rfl, g3⟩
                have HB3 := Lib.hid (HB2.out.trans (g3.mono HB2.out.size))
                clear g3
                cases hpb : polyB (ringZ D.ps r) with
                | false =>
                  have HRR := Lib.hid (HR.out.trans (faces_bad hiz (HFB.out.trans (by unfold ringB; rw [hpb]; simp))))
                  go_wp2
                  go_ret
                  exact ⟨ret_bool' HRR.out.symm, HB3.out⟩
                | true =>
                  have HT := Lib.hid (allTo_succ ha.out (HFB.out.trans (by unfold ringB; rw [hnm, HOB.out, hrg, hpb]; rfl)))
                  go_wp2
                  go_roundw
                  case rel => exact ⟨i + 1, by omega, by go_num, HT, HB3⟩
                  case measure => simp [intOf]; omega
      · obtain rfl : i = m := by omega
        have HRR := Lib.hid (show drB D = true by
          rw [HR.out]; unfold facesB; rw [← HZ.out, ha.out]; simp; omega)
        go_wp2
        go_ret
        exact ⟨ret_bool' HRR.out.symm, hb.out⟩
end Go.Proofs.YtfhlafnjccoocaaGreat
