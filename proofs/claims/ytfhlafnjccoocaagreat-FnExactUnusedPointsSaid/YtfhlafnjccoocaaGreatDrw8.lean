/- Is a drawing valid, in spec. -/
import Derived.Test.YtfhlafnjccoocaaGreatDrw7
namespace Go.Proofs.YtfhlafnjccoocaaGreat
open Seq2 Go.ChangeShapes Go.WideShapes Go.ChangeAt Go.RowKit
set_option linter.unusedVariables false
set_option linter.unusedSimpArgs false

theorem pts_bad {wd hg : Int} {zs : List P2} {i : Nat} (hi : i < zs.length) (h : ptB wd hg zs i = false) : ptsB wd hg zs = false := by
  unfold ptsB; rw [allTo_bad hi h]; rfl
set_option maxRecDepth 100000 in
set_option maxHeartbeats 4000000 in
theorem points_spec (q : Nat) (D : Drw) (w : World) (hd : DP w q D) : Calls Tryz.prog 28 #[.pointer (some ⟨q, 0, none⟩)] w fun e w' => e = .returned (.bool (ptsB D.wd D.hg D.ps)) ∧ Below w.heap.size w w' := by
  obtain ⟨ao, n, c, bo, m, d, hq, _, _, hs, hp, _⟩ := hd.out
  have HQ := Lib.hid hq
  have HP := Lib.hid hp
  have HZ := Lib.hid hp.1
  have hn : n ≤ 1048576 := by have := hp.1; unfold dSz at hs; omega
  clear hd hq hp hs
  generalize D.ps = zs at *
  generalize D.wd = wd at *
  generalize D.hg = hg at *
  go_enter Tryz.func28, Tryz.ntmps28
  go_wp2
  go_loopw [3] (fun iv wr => ∃ (i : Nat), i ≤ n ∧ iv = .int .i64 i ∧ Hid (allTo (ptB wd hg zs) i = true) ∧ Hid (Below w.heap.size w wr)) (fun i _ => n - (intOf i).toNat)
  case atStart => exact ⟨0, by omega, rfl, Lib.hid rfl, Lib.hid (Below.refl _ _)⟩
  case round =>
    obtain ⟨i, hi, rfl, ha, hb⟩ := hrel
    have hob := HQ.out.keep (hb.out.block q HQ.out.lt)
    have hqw := hob.lt
    obtain ⟨c0, _, c1, _, c2, _, _, _⟩ := hob.cells
    clear hob
    by_cases hlt : i < n
    · have hiz : i < zs.length := by have := HZ.out; omega
      obtain ⟨b, rfl, hpp⟩ := (HP.out.below hb.out).at (by omega)
      have hbw := hpp.1
      obtain ⟨x, y, e, p0, p1⟩ := hpp.pt hiz
      have HB := Lib.hid (show ptB wd hg zs i = (inI x 0 wd && inI y 0 hg && newB zs i) by unfold ptB ptIn; rw [e])
      have HE := Lib.hid e
      clear hpp e
      cases hx : inI x 0 wd with
      | false =>
        have HX := Lib.hid hx
        have HR := Lib.hid (pts_bad hiz (HB.out.trans (by rw [hx]; simp)))
        go_wp2
        refine wp_region_below (by kernel_rfl) (by kernel_rfl) ?_
        repeat (first | (refine wq_skip ?_ ?_; (focus (go_simp; (first | done | (simp [undef]; done)))); (try simp only [Act.put, List.setIfInBounds_toArray, List.set_cons_zero, List.set_cons_succ])) | (refine wq_val ?_ ?_; (focus (go_simp; done)); apply Exists.intro; refine ⟨fun w1 hw1 => ?_, ?_⟩; (obtain ⟨hc, hf⟩ := bcell hw1; clear hw1; go_simp; (first | done | with_reducible rfl | (with_reducible exact eql2 _ _ _) | (with_reducible exact neq2 _ _ _))); (try simp only [Act.put, List.setIfInBounds_toArray, List.set_cons_zero, List.set_cons_succ])) | (refine wq_call 27 ?_ ?_; (focus (go_simp; done)); apply Exists.intro; refine ⟨fun w1 hw1 => ?_, ?_⟩; (focus (clear hw1; go_simp; (first | done | with_reducible rfl))); apply Exists.intro; refine ⟨fun w1 hw1 => ?_, ?_⟩; (focus (exact calls_below_same hw1 (in_any _ _ _ _); done)); (try simp only [Act.put, List.setIfInBounds_toArray, List.set_cons_zero, List.set_cons_succ])))
        refine wq_nil ?_
        intro wa hba
        have HA := Lib.hid (hb.out.trans (hba.mono hb.out.size))
        clear hba
        go_wp2
        go_ret
        exact ⟨ret_bool' HR.out.symm, HA.out⟩
      | true =>
        have HX := Lib.hid hx
        cases hy : inI y 0 hg with
        | false =>
          have HY := Lib.hid hy
          have HR := Lib.hid (pts_bad hiz (HB.out.trans (by rw [hx, hy]; simp)))
          go_wp2
          refine wp_region_below (by kernel_rfl) (by kernel_rfl) ?_
          repeat (first | (refine wq_skip ?_ ?_; (focus (go_simp; (first | done | (simp [undef]; done)))); (try simp only [Act.put, List.setIfInBounds_toArray, List.set_cons_zero, List.set_cons_succ])) | (refine wq_val ?_ ?_; (focus (go_simp; done)); apply Exists.intro; refine ⟨fun w1 hw1 => ?_, ?_⟩; (obtain ⟨hc, hf⟩ := bcell hw1; clear hw1; go_simp; (first | done | with_reducible rfl | (with_reducible exact eql2 _ _ _) | (with_reducible exact neq2 _ _ _))); (try simp only [Act.put, List.setIfInBounds_toArray, List.set_cons_zero, List.set_cons_succ])) | (refine wq_call 27 ?_ ?_; (focus (go_simp; done)); apply Exists.intro; refine ⟨fun w1 hw1 => ?_, ?_⟩; (focus (clear hw1; go_simp; (first | done | with_reducible rfl))); apply Exists.intro; refine ⟨fun w1 hw1 => ?_, ?_⟩; (focus (exact calls_below_same hw1 (in_any _ _ _ _); done)); (try simp only [Act.put, List.setIfInBounds_toArray, List.set_cons_zero, List.set_cons_succ])))
          refine wq_nil ?_
          intro wa hba
          have HA := Lib.hid (hb.out.trans (hba.mono hb.out.size))
          clear hba
          go_wp2
          go_ret
          exact ⟨ret_bool' HR.out.symm, HA.out⟩
        | true =>
          have HY := Lib.hid hy
          have HB2 := Lib.hid (HB.out.trans (show _ = newB zs i by rw [hx, hy]; simp))
          go_wp2
          refine wp_region_below (by kernel_rfl) (by kernel_rfl) ?_
          repeat (first | (refine wq_skip ?_ ?_; (focus (go_simp; (first | done | (simp [undef]; done)))); (try simp only [Act.put, List.setIfInBounds_toArray, List.set_cons_zero, List.set_cons_succ])) | (refine wq_val ?_ ?_; (focus (go_simp; done)); apply Exists.intro; refine ⟨fun w1 hw1 => ?_, ?_⟩; (obtain ⟨hc, hf⟩ := bcell hw1; clear hw1; go_simp; (first | done | with_reducible rfl | (with_reducible exact eql2 _ _ _) | (with_reducible exact neq2 _ _ _))); (try simp only [Act.put, List.setIfInBounds_toArray, List.set_cons_zero, List.set_cons_succ])) | (refine wq_call 27 ?_ ?_; (focus (go_simp; done)); apply Exists.intro; refine ⟨fun w1 hw1 => ?_, ?_⟩; (focus (clear hw1; go_simp; (first | done | with_reducible rfl))); apply Exists.intro; refine ⟨fun w1 hw1 => ?_, ?_⟩; (focus (exact calls_below_same hw1 (in_any _ _ _ _); done)); (try simp only [Act.put, List.setIfInBounds_toArray, List.set_cons_zero, List.set_cons_succ])))
          refine wq_nil ?_
          intro wa hba
          have HA := Lib.hid (hb.out.trans (hba.mono hb.out.size))
          clear hba
          go_wp2
          go_loopw [4] (fun kv wr2 => ∃ (k : Nat), k ≤ i ∧ kv = .int .i64 k ∧ Hid (allTo (fun k => !eqP (zs.getD i (0, 0)) (zs.getD k (0, 0))) k = true) ∧ Hid (Below w.heap.size w wr2)) (fun i' _ => i - (intOf i').toNat)
          case atStart => exact ⟨0, by omega, rfl, Lib.hid rfl, HA⟩
          case round =>
            obtain ⟨k, hk, rfl, hk2, hb2⟩ := hrel
            have hob := HQ.out.keep (hb2.out.block q HQ.out.lt)
            have hqw := hob.lt
            clear c0 c1 c2
            obtain ⟨c0, _, c1, _, c2, _, _, _⟩ := hob.cells
            clear hob
            by_cases hlt2 : k < i
            · have hkz : k < zs.length := by omega
              have hkn : k < n := by omega
              have hpp := (HP.out.below hb2.out).2.resolve_left (by omega)
              obtain ⟨b', eb, hpp⟩ := hpp
              cases eb
              clear hbw p0 p1
              have hbw := hpp.1
              obtain ⟨x', y', e, p0, p1⟩ := hpp.pt hiz
              rw [HE.out] at e
              cases e
              obtain ⟨u, v, e, r0, r1⟩ := hpp.pt hkz
              have HQE := Lib.hid (show eqP (zs.getD i (0, 0)) (zs.getD k (0, 0)) = (decide (x = u) && decide (y = v)) by rw [HE.out, e]; rfl)
              clear hpp e
              by_cases h1 : x = u <;> by_cases h2 : y = v
              · have HR := Lib.hid (pts_bad hiz (HB2.out.trans (allTo_bad hlt2 (by rw [HQE.out]; simp [h1, h2]))))
                subst h1 h2
                go_wp2
                refine wp_region_below (by kernel_rfl) (by kernel_rfl) ?_
                repeat (first | (refine wq_skip ?_ ?_; (focus (go_simp; (first | done | (simp [undef]; done)))); (try simp only [Act.put, List.setIfInBounds_toArray, List.set_cons_zero, List.set_cons_succ])) | (refine wq_val ?_ ?_; (focus (go_simp; done)); apply Exists.intro; refine ⟨fun w1 hw1 => ?_, ?_⟩; (obtain ⟨hc, hf⟩ := bcell hw1; clear hw1; go_simp; (first | done | with_reducible rfl | (with_reducible exact eql2 _ _ _) | (with_reducible exact neq2 _ _ _))); (try simp only [Act.put, List.setIfInBounds_toArray, List.set_cons_zero, List.set_cons_succ])))
                refine wq_nil ?_
                intro wc hbc
                have HC := Lib.hid (hb2.out.trans (hbc.mono hb2.out.size))
                clear hbc
                go_wp2
                go_ret
                exact ⟨ret_bool' HR.out.symm, HC.out⟩
              all_goals
                have HT := Lib.hid (allTo_succ hk2.out (by rw [HQE.out]; simp [h1, h2]))
                clear HQE
                go_wp2
                refine wp_region_below (by kernel_rfl) (by kernel_rfl) ?_
                repeat (first | (refine wq_skip ?_ ?_; (focus (go_simp; (first | done | (simp [undef]; done)))); (try simp only [Act.put, List.setIfInBounds_toArray, List.set_cons_zero, List.set_cons_succ])) | (refine wq_val ?_ ?_; (focus (go_simp; done)); apply Exists.intro; refine ⟨fun w1 hw1 => ?_, ?_⟩; (obtain ⟨hc, hf⟩ := bcell hw1; clear hw1; go_simp; (first | done | with_reducible rfl | (with_reducible exact eql2 _ _ _) | (with_reducible exact neq2 _ _ _))); (try simp only [Act.put, List.setIfInBounds_toArray, List.set_cons_zero, List.set_cons_succ])))
                refine wq_nil ?_
                intro wc hbc
                have HC := Lib.hid (hb2.out.trans (hbc.mono hb2.out.size))
                clear hbc
                go_wp2
                go_roundw
                case rel => exact ⟨k + 1, by omega, by go_num, HT, HC⟩
                case measure => simp [intOf]; omega
            · obtain rfl : k = i := by omega
              have HT := Lib.hid (allTo_succ ha.out (HB2.out.trans hk2.out))
              go_wp2
              go_roundw
              case rel => exact ⟨k + 1, by omega, by go_num, HT, hb2⟩
              case measure => simp [intOf]; omega
    · obtain rfl : i = n := by omega
      have HR := Lib.hid (show ptsB wd hg zs = decide ((i : Int) ≤ 48) by
        unfold ptsB; rw [← HZ.out, ha.out]; simp; omega)
      go_wp2
      go_ret
      exact ⟨ret_bool' HR.out.symm, hb.out⟩
end Go.Proofs.YtfhlafnjccoocaaGreat
