/- The first defect at a place: the whole, impl and spec. -/
import Derived.Test.YtonpenccppcgjaaDoorLea7
namespace Go.Proofs.YtonpenccppcgjaaDoor
open Seq2 Go.ChangeShapes Go.WideShapes Go.ChangeAt Go.RowKit
set_option linter.unusedVariables false
set_option linter.unusedSimpArgs false

def dfR (z : Lf) (x y : Int) : Int × Int := if lfB z then (if inD z.wd z.ln x y then (if ixD (x, y, 1, 1) z.df < 0 then (0, 3) else (ixD (x, y, 1, 1) z.df, 0)) else (0, 2)) else (0, 1)
set_option maxRecDepth 100000 in
set_option maxHeartbeats 8000000 in
theorem clo_da (q p1 p2 : Nat) (E : ErrA) (z : Lf) (ao : Option Addr) (n c : Nat) (x y : Int) (w : World) (hB : lfB z = true) (hn : n ≤ 1048576) (hv : BxV w ao n z.df) (he : Errs w E)
    (hq : w.heap[q]? = some (.cells #[.string z.id, .string z.fl, .int .i64 z.nu, .string z.ve.1, .int .i64 z.ve.2.1, .int .i64 z.ve.2.2, .int .i64 z.wd, .int .i64 z.ln, .slice ao n c] 32 (0, 0)))
    (h1 : w.heap[p1]? = some (.cells #[.int .i64 x] 2 (0, 0))) (h2 : w.heap[p2]? = some (.cells #[.int .i64 y] 2 (0, 0))) :
    Calls Tryd.prog 62 #[.pointer (some ⟨q, 0, none⟩), .pointer (some ⟨p1, 0, none⟩), .pointer (some ⟨p2, 0, none⟩)] w fun e w' => e = .returned (.tuple #[.int .i64 ((dfO E z x y).1), (dfO E z x y).2]) ∧ Below w.heap.size w w' := by
  have hz := blk_lt hq
  have a0 := (cell_of_arr hq (j := 0) rfl).1
  have a1 := (cell_of_arr hq (j := 1) rfl).1
  have a2 := (cell_of_arr hq (j := 2) rfl).1
  have a3 := (cell_of_arr hq (j := 3) rfl).1
  have a4 := (cell_of_arr hq (j := 4) rfl).1
  have a5 := (cell_of_arr hq (j := 5) rfl).1
  have a6 := (cell_of_arr hq (j := 6) rfl).1
  have a7 := (cell_of_arr hq (j := 7) rfl).1
  have a8 := (cell_of_arr hq (j := 8) rfl).1
  have hz1 := blk_lt h1
  have b0 := (cell_of_arr h1 (j := 0) rfl).1
  have hz2 := blk_lt h2
  have d0 := (cell_of_arr h2 (j := 0) rfl).1
  have HV := Lib.hid hv
  have HE := Lib.hid he
  have HBB := Lib.hid hB
  clear hq h1 h2 hv he hB
  go_enter Tryd.func62, Tryd.ntmps62
  go_wp2
  refine wp_region_below (by kernel_rfl) (by kernel_rfl) ?_
  repeat (first | (refine wq_val ?_ ?_; (focus (go_simp; done)); apply Exists.intro; refine ⟨fun w1 hw1 => ?_, ?_⟩; (obtain ⟨hc, hf⟩ := bcell hw1; clear hw1; go_simp; (first | done | with_reducible rfl | (with_reducible exact eql2 _ _ _) | (with_reducible exact neq2 _ _ _))); (try simp only [Act.put, List.setIfInBounds_toArray, List.set_cons_zero, List.set_cons_succ])) | (refine wq_skip ?_ ?_; (focus (go_simp; (first | done | (simp [undef]; done)))); (try simp only [Act.put, List.setIfInBounds_toArray, List.set_cons_zero, List.set_cons_succ])) | (refine wq_call 63 ?_ ?_; (focus (go_simp; done)); apply Exists.intro; refine ⟨fun w1 hw1 => ?_, ?_⟩; (focus (clear hw1; go_simp; (first | done | with_reducible rfl))); apply Exists.intro; refine ⟨fun w1 hw1 => ?_, ?_⟩; (focus (exact calls_below hw1 (surf_impl _ z ao n c _ rfl); done)); (try simp only [Act.put, List.setIfInBounds_toArray, List.set_cons_zero, List.set_cons_succ])) | (refine wq_call 64 ?_ ?_; (focus (go_simp; done)); apply Exists.intro; refine ⟨fun w1 hw1 => ?_, ?_⟩; (focus (clear hw1; go_simp; (first | done | with_reducible rfl))); apply Exists.intro; refine ⟨fun w1 hw1 => ?_, ?_⟩; (focus (exact calls_below hw1 (dat_impl E z ao n c x y w1 HBB.out hn (HV.out.below hw1) (HE.out.below hw1)); done)); (try simp only [Act.put, List.setIfInBounds_toArray, List.set_cons_zero, List.set_cons_succ])))
  refine wq_nil ?_
  intro w1 hb1
  have HB1 := Lib.hid hb1
  clear hb1
  go_wp2
  go_ret2
  exact ⟨rfl, HB1.out⟩
set_option maxRecDepth 100000 in
set_option maxHeartbeats 8000000 in
theorem da_impl (v : Value) (z : Lf) (x y : Int) (w : World) (hv : LfV w v z) (ht : TabAt w) (he : ErrsAt w) : Calls Tryd.prog 24 #[v, .int .i64 x, .int .i64 y] w fun e w' => e = .returned (.tuple #[.int .i64 ((dfR z x y).1), .int .i64 ((dfR z x y).2)]) ∧ Below w.heap.size w w' := by
  obtain ⟨E, hE⟩ := he.out
  have HVV := Lib.hid hv
  obtain ⟨ao, n, c, rfl, _, _, _, _, _, _, _, hn, hd⟩ := hv.out
  have hA := three_allocs (w := w) (.cells #[.string z.id, .string z.fl, .int .i64 z.nu, .string z.ve.1, .int .i64 z.ve.2.1, .int .i64 z.ve.2.2, .int .i64 z.wd, .int .i64 z.ln, .slice ao n c] 32) (.cells #[.int .i64 x] 2) (.cells #[.int .i64 y] 2)
  have hs := ToSt.start w (.cells #[.string z.id, .string z.fl, .int .i64 z.nu, .string z.ve.1, .int .i64 z.ve.2.1, .int .i64 z.ve.2.2, .int .i64 z.wd, .int .i64 z.ln, .slice ao n c] 32) (.cells #[.int .i64 x] 2) (.cells #[.int .i64 y] 2)
  have HA := Lib.hid hA
  have HS := Lib.hid hs
  have HT := Lib.hid (ht.below hA)
  have HE := Lib.hid (hE.below hA)
  have HV := Lib.hid (hd.below hA)
  have HN := Lib.hid hn
  clear hv hd ht he hE hA hs
  cases hB : lfB z with
  | false =>
    have HR := Lib.hid (show dfR z x y = (0, 1) by unfold dfR; rw [hB]; rfl)
    rw [HR.out]
    go_enter Tryd.func24, Tryd.ntmps24
    go_wp2_with fail
    refine (validL_impl _ z _ (HVV.out.below HA.out) HT.out).mono ?_
    rintro e w1 ⟨rfl, g1⟩
    have HG := Lib.hid (bseq HA.out g1)
    clear g1
    rw [hB]
    go_wp2_with fail
    refine (wc_DefectAt_1_no _ _).mono ?_
    rintro e w2 ⟨rfl, rfl⟩
    go_wp2
    go_ret2
    exact ⟨rfl, HG.out⟩
  | true =>
    have HBB := Lib.hid hB
    cases h1 : inD z.wd z.ln x y with
    | false =>
      have HR := Lib.hid (show dfR z x y = (0, 2) by unfold dfR; rw [hB, h1]; rfl)
      have HO := Lib.hid (show dfO E z x y = (0, esV E.r) by unfold dfO; rw [h1]; rfl)
      rw [HR.out]
      go_enter Tryd.func24, Tryd.ntmps24
      go_wp2_with fail
      refine (validL_impl _ z _ (HVV.out.below HA.out) HT.out).mono ?_
      rintro e w1 ⟨rfl, g1⟩
      have HG := Lib.hid (bseq HA.out g1)
      have HS1 := Lib.hid (HS.out.call g1)
      have HC := Lib.hid (by have := clo_da w.heap.size (w.heap.size + 1) (w.heap.size + 1 + 1) E z ao n c x y w1 HBB.out HN.out (HV.out.below g1) (HE.out.below g1) HS1.out.a HS1.out.r HS1.out.o; rw [HO.out] at this; exact this)
      have HE1 := Lib.hid (HE.out.below g1)
      clear g1
      rw [hB]
      go_wp2_with fail
      refine (wc_DefectAt_1_err _ _ _ _ 2 E.r _ HC.out (fun w' hb => code_R E w' (HE1.out.below hb))).mono ?_
      rintro e w2 ⟨rfl, g2⟩
      have HG2 := Lib.hid (bseq HG.out g2)
      clear g2
      go_wp2
      go_ret2
      exact ⟨rfl, HG2.out⟩
    | true =>
      by_cases h2 : ixD (x, y, 1, 1) z.df < 0
      · have HR := Lib.hid (show dfR z x y = (0, 3) by unfold dfR; rw [hB, h1, if_pos rfl, if_pos rfl, if_pos h2])
        have HO := Lib.hid (show dfO E z x y = (0, esV E.n) by unfold dfO; rw [h1, if_pos rfl, if_pos h2])
        rw [HR.out]
        go_enter Tryd.func24, Tryd.ntmps24
        go_wp2_with fail
        refine (validL_impl _ z _ (HVV.out.below HA.out) HT.out).mono ?_
        rintro e w1 ⟨rfl, g1⟩
        have HG := Lib.hid (bseq HA.out g1)
        have HS1 := Lib.hid (HS.out.call g1)
        have HC := Lib.hid (by have := clo_da w.heap.size (w.heap.size + 1) (w.heap.size + 1 + 1) E z ao n c x y w1 HBB.out HN.out (HV.out.below g1) (HE.out.below g1) HS1.out.a HS1.out.r HS1.out.o; rw [HO.out] at this; exact this)
        have HE1 := Lib.hid (HE.out.below g1)
        clear g1
        rw [hB]
        go_wp2_with fail
        refine (wc_DefectAt_1_err _ _ _ _ 3 E.n _ HC.out (fun w' hb => code_N E w' (HE1.out.below hb))).mono ?_
        rintro e w2 ⟨rfl, g2⟩
        have HG2 := Lib.hid (bseq HG.out g2)
        clear g2
        go_wp2
        go_ret2
        exact ⟨rfl, HG2.out⟩
      · have HR := Lib.hid (show dfR z x y = (ixD (x, y, 1, 1) z.df, 0) by unfold dfR; rw [hB, h1, if_pos rfl, if_pos rfl, if_neg h2])
        have HO := Lib.hid (show dfO E z x y = (ixD (x, y, 1, 1) z.df, .nilIface) by unfold dfO; rw [h1, if_pos rfl, if_neg h2])
        rw [HR.out]
        go_enter Tryd.func24, Tryd.ntmps24
        go_wp2_with fail
        refine (validL_impl _ z _ (HVV.out.below HA.out) HT.out).mono ?_
        rintro e w1 ⟨rfl, g1⟩
        have HG := Lib.hid (bseq HA.out g1)
        have HS1 := Lib.hid (HS.out.call g1)
        have HC := Lib.hid (by have := clo_da w.heap.size (w.heap.size + 1) (w.heap.size + 1 + 1) E z ao n c x y w1 HBB.out HN.out (HV.out.below g1) (HE.out.below g1) HS1.out.a HS1.out.r HS1.out.o; rw [HO.out] at this; exact this)
        clear g1
        rw [hB]
        go_wp2_with fail
        refine (wc_DefectAt_1_ok _ _ _ _ _ HC.out).mono ?_
        rintro e w2 ⟨rfl, g2⟩
        have HG2 := Lib.hid (bseq HG.out g2)
        clear g2
        go_wp2
        go_ret2
        exact ⟨rfl, HG2.out⟩
set_option maxRecDepth 100000 in
set_option maxHeartbeats 16000000 in
theorem da_spec (v : Value) (z : Lf) (x y : Int) (w : World) (hv : LfV w v z) : Calls Tryd.prog 23 #[v, .int .i64 x, .int .i64 y] w fun e w' => e = .returned (.tuple #[.int .i64 ((dfR z x y).1), .int .i64 ((dfR z x y).2)]) ∧ Below w.heap.size w w' := by
  have HZ := Lib.hid (hv.at 32)
  obtain ⟨ao, n, c, rfl, _, _, _, _, _, _, _, hn, hd⟩ := hv.out
  have HA := Lib.hid (one_alloc (w := w) (.cells #[.string z.id, .string z.fl, .int .i64 z.nu, .string z.ve.1, .int .i64 z.ve.2.1, .int .i64 z.ve.2.2, .int .i64 z.wd, .int .i64 z.ln, .slice ao n c] 32))
  have HX := Lib.hid (World.alloc_heap_new w (.cells #[.string z.id, .string z.fl, .int .i64 z.nu, .string z.ve.1, .int .i64 z.ve.2.1, .int .i64 z.ve.2.2, .int .i64 z.wd, .int .i64 z.ln, .slice ao n c] 32))
  have HV := Lib.hid (hd.below HA.out)
  have HN := Lib.hid hd.1
  clear hv hd
  cases hB : lfB z with
  | false =>
    have HR := Lib.hid (show dfR z x y = (0, 1) by unfold dfR; rw [hB]; rfl)
    rw [HR.out]
    go_enter Tryd.func23, Tryd.ntmps23
    go_wp2_with fail
    refine (one_lea _ _ z _ HZ.out).mono ?_
    rintro e w1 ⟨rfl, g1⟩
    have HG := Lib.hid (bseq HA.out g1)
    clear g1
    rw [hB]
    go_wp2
    go_ret2
    exact ⟨rfl, HG.out⟩
  | true =>
    obtain ⟨hW, hL, _, hdf⟩ := lfB_df hB
    have HS := Lib.hid (fun j (hj : j < n) => bxS_of (hdf j (by rw [← HN.out]; exact hj)) hW.2 hL.2)
    have i1 : IntKind.i64.wrap (z.wd - 1) = z.wd - 1 := IntWalk.i64_in _ (by omega)
    have i2 : IntKind.i64.wrap (z.ln - 1) = z.ln - 1 := IntWalk.i64_in _ (by omega)
    have HI := Lib.hid (And.intro i1 i2)
    have HWL := Lib.hid (show z.wd ≤ 20000 ∧ z.ln ≤ 20000 by omega)
    clear hdf hW hL i1 i2
    by_cases h1 : inI x 0 (z.wd - 1) = true
    rotate_left
    · skip
      try simp only [Bool.not_eq_true] at h1
      have HR := Lib.hid (show dfR z x y = (0, 2) by unfold dfR inD; rw [hB]; simp only [*, Bool.false_and, Bool.and_false]; rfl)
      rw [HR.out]
      go_enter Tryd.func23, Tryd.ntmps23
      go_wp2_with fail
      refine (one_lea _ _ z _ HZ.out).mono ?_
      rintro e w1 ⟨rfl, g1⟩
      have HG := Lib.hid (bseq HA.out g1)
      have HX1 := Lib.hid ((g1.block _ (blk_lt HX.out)).trans HX.out)
      have HV1 := Lib.hid (HV.out.below g1)
      clear g1
      rw [hB]
      have hz := blk_lt HX1.out
      have a6 := (cell_of_arr HX1.out (j := 6) rfl).1
      have a7 := (cell_of_arr HX1.out (j := 7) rfl).1
      have a8 := (cell_of_arr HX1.out (j := 8) rfl).1
      obtain ⟨i1, i2⟩ := HI.out
      go_wp2_with fail
      refine (in_any _ _ _ _).mono ?_
      rintro e w2 ⟨rfl, rfl⟩
      rw [h1]
      go_wp2
      go_ret2
      exact ⟨rfl, HG.out⟩
    by_cases h2 : inI y 0 (z.ln - 1) = true
    rotate_left
    · skip
      try simp only [Bool.not_eq_true] at h2
      have HR := Lib.hid (show dfR z x y = (0, 2) by unfold dfR inD; rw [hB]; simp only [*, Bool.false_and, Bool.and_false]; rfl)
      rw [HR.out]
      go_enter Tryd.func23, Tryd.ntmps23
      go_wp2_with fail
      refine (one_lea _ _ z _ HZ.out).mono ?_
      rintro e w1 ⟨rfl, g1⟩
      have HG := Lib.hid (bseq HA.out g1)
      have HX1 := Lib.hid ((g1.block _ (blk_lt HX.out)).trans HX.out)
      have HV1 := Lib.hid (HV.out.below g1)
      clear g1
      rw [hB]
      have hz := blk_lt HX1.out
      have a6 := (cell_of_arr HX1.out (j := 6) rfl).1
      have a7 := (cell_of_arr HX1.out (j := 7) rfl).1
      have a8 := (cell_of_arr HX1.out (j := 8) rfl).1
      obtain ⟨i1, i2⟩ := HI.out
      go_wp2_with fail
      refine (in_any _ _ _ _).mono ?_
      rintro e w2 ⟨rfl, rfl⟩
      rw [h1]
      go_wp2_with fail
      refine (in_any _ _ _ _).mono ?_
      rintro e w2 ⟨rfl, rfl⟩
      rw [h2]
      go_wp2
      go_ret2
      exact ⟨rfl, HG.out⟩
    try simp only [Bool.not_eq_true] at h3
    go_enter Tryd.func23, Tryd.ntmps23
    go_wp2_with fail
    refine (one_lea _ _ z _ HZ.out).mono ?_
    rintro e w1 ⟨rfl, g1⟩
    have HG := Lib.hid (bseq HA.out g1)
    have HX1 := Lib.hid ((g1.block _ (blk_lt HX.out)).trans HX.out)
    have HV1 := Lib.hid (HV.out.below g1)
    clear g1
    rw [hB]
    have hz := blk_lt HX1.out
    have a6 := (cell_of_arr HX1.out (j := 6) rfl).1
    have a7 := (cell_of_arr HX1.out (j := 7) rfl).1
    have a8 := (cell_of_arr HX1.out (j := 8) rfl).1
    obtain ⟨i1, i2⟩ := HI.out
    go_wp2_with fail
    refine (in_any _ _ _ _).mono ?_
    rintro e w2 ⟨rfl, rfl⟩
    rw [h1]
    go_wp2_with fail
    refine (in_any _ _ _ _).mono ?_
    rintro e w2 ⟨rfl, rfl⟩
    rw [h2]
    go_wp2
    have hin : inD z.wd z.ln x y = true := by unfold inD; rw [h1, h2]; rfl
    have HBS := Lib.hid (bxS_of ((inD_box z.wd z.ln x y).trans hin) HWL.out.1 HWL.out.2)
    have HRR := Lib.hid (show dfR z x y = if ixD (x, y, 1, 1) z.df < 0 then (0, 3) else (ixD (x, y, 1, 1) z.df, 0) by unfold dfR; rw [hB, hin, if_pos rfl, if_pos rfl])
    have HO := Lib.hid (BxAt.box w1 x y 1 1 63)
    have HA1 := Lib.hid (one_alloc (w := w1) (.cells #[.int .i64 x, .int .i64 y, .int .i64 1, .int .i64 1] 63))
    replace HX1 := Lib.hid ((HA1.out.block _ (blk_lt HX1.out)).trans HX1.out)
    replace HV1 := Lib.hid (HV1.out.below HA1.out)
    replace HG := Lib.hid (bseq HG.out HA1.out)
    have hp1 : w1.heap.size < (w1.alloc (.cells #[.int .i64 x, .int .i64 y, .int .i64 1, .int .i64 1] 63)).heap.size := by simp
    clear HA1 hz a6 a7 a8 i1 i2
    generalize w1.alloc _ = W at *
    generalize w1.heap.size = p at *
    go_loopw [9] (fun iv wr => ∃ k : Nat, k ≤ n ∧ iv = .int .i64 k ∧ Hid (∀ j, j < k → metB (x, y, 1, 1) (z.df.getD j bx0) = false) ∧ Hid (Below W.heap.size W wr)) (fun i _ => n - (intOf i).toNat)
    case atStart => exact ⟨0, by omega, rfl, Lib.hid (fun j hj => absurd hj (by omega)), Lib.hid (Below.refl _ _)⟩
    case round =>
      obtain ⟨k, hk, rfl, hi, hb⟩ := hrel
      have HXk := Lib.hid ((hb.out.block _ (blk_lt HX1.out)).trans HX1.out)
      have hz := blk_lt HXk.out
      have a8 := (cell_of_arr HXk.out (j := 8) rfl).1
      by_cases hlt : k < n
      · obtain ⟨b, rfl, hbx⟩ := (HV1.out.below hb.out).2.resolve_left (by omega)
        have HBK := Lib.hid (hbx k hlt)
        have hbw := HBK.out.1
        clear hbx
        go_wp2_with fail
        refine (bxm_spec p 0 b (k * 4) (x, y, 1, 1) (z.df.getD k bx0) _ (HO.out.below hb.out) HBK.out HBS.out (HS.out k hlt)).mono ?_
        rintro e w3 ⟨rfl, g3⟩
        have HG3 := Lib.hid (hb.out.trans (g3.mono hb.out.size))
        clear g3
        cases hs : metB (x, y, 1, 1) (z.df.getD k bx0) with
        | true =>
          have HIX := Lib.hid (show ixD (x, y, 1, 1) z.df = (k : Int) from firstIx_at hi.out hs _ (by have := HN.out; omega))
          have HR := Lib.hid (show dfR z x y = ((k : Int), 0) by rw [HRR.out, HIX.out, if_neg (by omega)])
          go_wp2
          go_ret2
          exact ⟨by rw [HR.out]; rfl, bseq HG.out HG3.out⟩
        | false =>
          go_wp2
          go_roundw
          case rel => exact ⟨k + 1, by omega, by go_num, Lib.hid (fun j hj => (Nat.lt_succ_iff_lt_or_eq.1 hj).elim (hi.out j) (fun e => by subst e; exact hs)), HG3⟩
          case measure => simp [intOf]; omega
      · obtain rfl : k = n := by omega
        have HIX := Lib.hid (show ixD (x, y, 1, 1) z.df = -1 from firstIx_none (by rw [← HN.out]; exact hi.out))
        have HR := Lib.hid (show dfR z x y = (0, 3) by rw [HRR.out, HIX.out, if_pos (by omega)])
        go_wp2
        go_ret2
        exact ⟨by rw [HR.out]; rfl, bseq HG.out hb.out⟩
end Go.Proofs.YtonpenccppcgjaaDoor
