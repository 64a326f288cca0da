/- Is a leaf valid: impl. -/
import Derived.Test.YthocpiklbcahgaaDoorLea2
namespace Go.Proofs.YthocpiklbcahgaaDoor
open Seq2 Go.ChangeShapes Go.WideShapes Go.ChangeAt Go.RowKit
set_option linter.unusedVariables false
set_option linter.unusedSimpArgs false

def dfB (z : Lf) : Bool := decide (z.df.length ≤ 6) && dfsB z.wd z.ln z.df
set_option maxRecDepth 100000 in
set_option maxHeartbeats 8000000 in
theorem df_impl (v : Value) (z : Lf) (w : World) (hv : LfV w v z) (hW : 10 ≤ z.wd ∧ z.wd ≤ 20000) (hL : 10 ≤ z.ln ∧ z.ln ≤ 20000) : Calls Tryd.prog 98 #[v] w fun e w' => e = .returned (.bool (dfB z)) ∧ Below w.heap.size w w' := by
  obtain ⟨ao, n, c, rfl, hs, m0, m1, _, m3, _, _, hn, hd⟩ := hv.out
  have HA := Lib.hid (one_alloc (w := w) (.cells #[.string z.id, .string z.fl, .int .i64 z.nu, .string z.ve.1, .int .i64 z.ve.2.1, .int .i64 z.ve.2.2, .int .i64 z.wd, .int .i64 z.ln, .slice ao n c] 45))
  have HX := Lib.hid (World.alloc_heap_new w (.cells #[.string z.id, .string z.fl, .int .i64 z.nu, .string z.ve.1, .int .i64 z.ve.2.1, .int .i64 z.ve.2.2, .int .i64 z.wd, .int .i64 z.ln, .slice ao n c] 45))
  have HD := Lib.hid (hd.below HA.out)
  have HN := Lib.hid hd.1
  have HWW := Lib.hid (show 0 ≤ z.wd ∧ z.wd ≤ 20000 by omega)
  have HLL := Lib.hid (show 0 ≤ z.ln ∧ z.ln ≤ 20000 by omega)
  clear hv hs m0 m1 m3 hd hW hL
  by_cases h6 : n ≤ 6
  rotate_left
  · have HR := Lib.hid (show dfB z = false by unfold dfB; rw [decide_eq_false (show ¬ z.df.length ≤ 6 by have := HN.out; omega)]; rfl)
    have h3' : decide ((6 : Int) < (n : Int)) = true := by simp; omega
    clear h6
    go_enter Tryd.func98, Tryd.ntmps98
    go_wp2
    go_ret
    exact ⟨ret_bool' HR.out.symm, HA.out⟩
  have HR := Lib.hid (show dfB z = dfsB z.wd z.ln z.df by unfold dfB; rw [decide_eq_true (show z.df.length ≤ 6 by have := HN.out; omega)]; rfl)
  have h3' : decide ((6 : Int) < (n : Int)) = false := by simp; omega
  go_enter Tryd.func98, Tryd.ntmps98
  go_wp2
  generalize w.alloc _ = W at *
  clear h3'
  go_loopw [12] (fun iv wr => ∃ k : Nat, k ≤ n ∧ iv = .int .i64 k ∧ Hid (∀ j, j < k → boxW (z.df.getD j bx0) z.wd z.ln = true) ∧ Hid (Below W.heap.size W wr)) (fun i _ => n - (intOf i).toNat)
  case atStart => exact ⟨0, by omega, rfl, Lib.hid (fun j hj => absurd hj (by omega)), Lib.hid (Below.refl _ _)⟩
  case round =>
    obtain ⟨k, hk, rfl, hi, hb⟩ := hrel
    by_cases hlt : k < n
    · obtain ⟨b, rfl, hbx⟩ := (HD.out.below hb.out).2.resolve_left (by omega)
      obtain ⟨hbw, v0, v1, v2, v3⟩ := hbx k hlt
      have HXk := Lib.hid ((hb.out.block _ (blk_lt HX.out)).trans HX.out)
      have hzk := blk_lt HXk.out
      have a4 := (cell_of_arr HXk.out (j := 6) rfl).1
      have a5 := (cell_of_arr HXk.out (j := 7) rfl).1
      clear hbx
      obtain ⟨d, hd⟩ : ∃ d, z.df.getD k bx0 = d := ⟨_, rfl⟩
      rw [hd] at v0 v1 v2 v3
      have HDK := Lib.hid hd
      clear hd
      obtain ⟨x, y, a, b'⟩ := d
      simp only at v0 v1 v2 v3
      have HBk := Lib.hid (hb.out.trans ((one_alloc (w := wr) (.cells #[.int .i64 x, .int .i64 y, .int .i64 a, .int .i64 b'] 49)).mono hb.out.size))
      go_wp2_with fail
      refine (within_impl x y a b' z.wd z.ln _ HWW.out HLL.out).mono ?_
      rintro e w1 ⟨rfl, g1⟩
      have HG := Lib.hid (HBk.out.trans (g1.mono HBk.out.size))
      clear g1
      cases hs : boxW (x, y, a, b') z.wd z.ln with
      | false =>
        have HF := Lib.hid (show dfsB z.wd z.ln z.df = false from allG_no (p := fun d => boxW d z.wd z.ln) (zs := z.df) (d := bx0) (k := k) (by have := HN.out; omega) (by rw [HDK.out]; exact hs))
        go_wp2
        go_ret
        exact ⟨ret_bool' (HR.out.trans HF.out).symm, bseq HA.out HG.out⟩
      | true =>
        go_wp2
        go_roundw
        case rel => exact ⟨k + 1, by omega, by go_num, Lib.hid (fun j hj => (Nat.lt_succ_iff_lt_or_eq.1 hj).elim (hi.out j) (fun e => by subst e; rw [HDK.out]; exact hs)), HG⟩
        case measure => simp [intOf]; omega
    · obtain rfl : k = n := by omega
      have HF := Lib.hid (show dfsB z.wd z.ln z.df = true from allG_yes (d := bx0) (by rw [← HN.out]; exact hi.out))
      go_wp2
      go_ret
      exact ⟨ret_bool' (HR.out.trans HF.out).symm, bseq HA.out hb.out⟩
set_option maxRecDepth 100000 in
set_option maxHeartbeats 16000000 in
theorem validL_impl (v : Value) (z : Lf) (w : World) (hv : LfV w v z) (ht : TabAt w) : Calls Tryd.prog 59 #[v] w fun e w' => e = .returned (.bool (lfB z)) ∧ Below w.heap.size w w' := by
  have HV := Lib.hid hv
  obtain ⟨ao, n, c, rfl, hs, m0, m1, _, m3, _, _, hn, hd⟩ := hv.out
  have HA := Lib.hid (one_alloc (w := w) (.cells #[.string z.id, .string z.fl, .int .i64 z.nu, .string z.ve.1, .int .i64 z.ve.2.1, .int .i64 z.ve.2.2, .int .i64 z.wd, .int .i64 z.ln, .slice ao n c] 45))
  have HX := Lib.hid (World.alloc_heap_new w (.cells #[.string z.id, .string z.fl, .int .i64 z.nu, .string z.ve.1, .int .i64 z.ve.2.1, .int .i64 z.ve.2.2, .int .i64 z.wd, .int .i64 z.ln, .slice ao n c] 45))
  have HT := Lib.hid (ht.below HA.out)
  have M0 := Lib.hid (show z.id.size ≤ maxLen by unfold maxLen; omega)
  have M1 := Lib.hid (show z.fl.size ≤ maxLen by unfold maxLen; omega)
  clear hv hs m0 m1 m3 hd ht
  have HB := Lib.hid (show lfB z = (nameB z.id && (nameB z.fl && (decide (0 ≤ z.nu) && (decide (z.nu ≤ 999) && (venB z.ve.1 z.ve.2.1 z.ve.2.2 && (decide (10 ≤ min z.wd z.ln) && (decide (max z.wd z.ln ≤ 20000) && dfB z))))))) by
    have e : (inI z.wd 10 20000 && inI z.ln 10 20000) = (decide (10 ≤ min z.wd z.ln) && decide (max z.wd z.ln ≤ 20000)) := by
      unfold inI
      rw [← Bool.decide_and, ← Bool.decide_and, ← Bool.decide_and, ← Bool.decide_and]
      exact decide_eq_decide.2 (by omega)
    rw [← Bool.and_assoc (decide (10 ≤ min z.wd z.ln)), ← e]
    unfold lfB vnB dfB inI
    simp only [Bool.and_assoc])
  by_cases h1 : nameB z.id = true
  rotate_left
  · skip
    try simp only [Bool.not_eq_true] at h1
    have HR := Lib.hid (show lfB z = false by rw [HB.out]; simp only [*, Bool.false_and, Bool.and_false, Bool.and_true, Bool.true_and])
    go_enter Tryd.func59, Tryd.ntmps59
    go_wp2_with fail
    refine (name_impl z.id _ M0.out).mono ?_
    rintro e w1 ⟨rfl, rfl⟩
    rw [h1]
    go_wp2
    go_ret
    exact ⟨ret_bool' HR.out.symm, HA.out⟩
  by_cases h2 : nameB z.fl = true
  rotate_left
  · skip
    try simp only [Bool.not_eq_true] at h2
    have HR := Lib.hid (show lfB z = false by rw [HB.out]; simp only [*, Bool.false_and, Bool.and_false, Bool.and_true, Bool.true_and])
    go_enter Tryd.func59, Tryd.ntmps59
    go_wp2_with fail
    refine (name_impl z.id _ M0.out).mono ?_
    rintro e w1 ⟨rfl, rfl⟩
    rw [h1]
    go_wp2_with fail
    refine (name_impl z.fl _ M1.out).mono ?_
    rintro e w1 ⟨rfl, rfl⟩
    rw [h2]
    go_wp2
    go_ret
    exact ⟨ret_bool' HR.out.symm, HA.out⟩
  by_cases h3 : decide (0 ≤ z.nu) = true
  rotate_left
  · skip
    try simp only [Bool.not_eq_true] at h3
    have HR := Lib.hid (show lfB z = false by rw [HB.out]; simp only [*, Bool.false_and, Bool.and_false, Bool.and_true, Bool.true_and])
    go_enter Tryd.func59, Tryd.ntmps59
    go_wp2_with fail
    refine (name_impl z.id _ M0.out).mono ?_
    rintro e w1 ⟨rfl, rfl⟩
    rw [h1]
    go_wp2_with fail
    refine (name_impl z.fl _ M1.out).mono ?_
    rintro e w1 ⟨rfl, rfl⟩
    rw [h2]
    go_wp2
    go_ret
    exact ⟨ret_bool' HR.out.symm, HA.out⟩
  by_cases h4 : decide (z.nu ≤ 999) = true
  rotate_left
  · skip
    try simp only [Bool.not_eq_true] at h4
    have HR := Lib.hid (show lfB z = false by rw [HB.out]; simp only [*, Bool.false_and, Bool.and_false, Bool.and_true, Bool.true_and])
    go_enter Tryd.func59, Tryd.ntmps59
    go_wp2_with fail
    refine (name_impl z.id _ M0.out).mono ?_
    rintro e w1 ⟨rfl, rfl⟩
    rw [h1]
    go_wp2_with fail
    refine (name_impl z.fl _ M1.out).mono ?_
    rintro e w1 ⟨rfl, rfl⟩
    rw [h2]
    go_wp2
    go_ret
    exact ⟨ret_bool' HR.out.symm, HA.out⟩
  by_cases h5 : venB z.ve.1 z.ve.2.1 z.ve.2.2 = true
  rotate_left
  · skip
    try simp only [Bool.not_eq_true] at h5
    have HR := Lib.hid (show lfB z = false by rw [HB.out]; simp only [*, Bool.false_and, Bool.and_false, Bool.and_true, Bool.true_and])
    go_enter Tryd.func59, Tryd.ntmps59
    go_wp2_with fail
    refine (name_impl z.id _ M0.out).mono ?_
    rintro e w1 ⟨rfl, rfl⟩
    rw [h1]
    go_wp2_with fail
    refine (name_impl z.fl _ M1.out).mono ?_
    rintro e w1 ⟨rfl, rfl⟩
    rw [h2]
    go_wp2_with fail
    refine (valid_vimpl _ _ _ _ HT.out).mono ?_
    rintro e w1 ⟨rfl, g1⟩
    have HG := Lib.hid (bseq HA.out g1)
    have HX1 := Lib.hid ((g1.block _ (blk_lt HX.out)).trans HX.out)
    clear g1
    have hz := blk_lt HX1.out
    have a0 := (cell_of_arr HX1.out (j := 0) rfl).1
    have a1 := (cell_of_arr HX1.out (j := 1) rfl).1
    have a2 := (cell_of_arr HX1.out (j := 2) rfl).1
    have a3 := (cell_of_arr HX1.out (j := 3) rfl).1
    have a4 := (cell_of_arr HX1.out (j := 4) rfl).1
    have a5 := (cell_of_arr HX1.out (j := 5) rfl).1
    have a6 := (cell_of_arr HX1.out (j := 6) rfl).1
    have a7 := (cell_of_arr HX1.out (j := 7) rfl).1
    have a8 := (cell_of_arr HX1.out (j := 8) rfl).1
    rw [h5]
    go_wp2
    go_ret
    exact ⟨ret_bool' HR.out.symm, HG.out⟩
  by_cases h6 : decide (10 ≤ min z.wd z.ln) = true
  rotate_left
  · skip
    try simp only [Bool.not_eq_true] at h6
    have HR := Lib.hid (show lfB z = false by rw [HB.out]; simp only [*, Bool.false_and, Bool.and_false, Bool.and_true, Bool.true_and])
    go_enter Tryd.func59, Tryd.ntmps59
    go_wp2_with fail
    refine (name_impl z.id _ M0.out).mono ?_
    rintro e w1 ⟨rfl, rfl⟩
    rw [h1]
    go_wp2_with fail
    refine (name_impl z.fl _ M1.out).mono ?_
    rintro e w1 ⟨rfl, rfl⟩
    rw [h2]
    go_wp2_with fail
    refine (valid_vimpl _ _ _ _ HT.out).mono ?_
    rintro e w1 ⟨rfl, g1⟩
    have HG := Lib.hid (bseq HA.out g1)
    have HX1 := Lib.hid ((g1.block _ (blk_lt HX.out)).trans HX.out)
    clear g1
    have hz := blk_lt HX1.out
    have a0 := (cell_of_arr HX1.out (j := 0) rfl).1
    have a1 := (cell_of_arr HX1.out (j := 1) rfl).1
    have a2 := (cell_of_arr HX1.out (j := 2) rfl).1
    have a3 := (cell_of_arr HX1.out (j := 3) rfl).1
    have a4 := (cell_of_arr HX1.out (j := 4) rfl).1
    have a5 := (cell_of_arr HX1.out (j := 5) rfl).1
    have a6 := (cell_of_arr HX1.out (j := 6) rfl).1
    have a7 := (cell_of_arr HX1.out (j := 7) rfl).1
    have a8 := (cell_of_arr HX1.out (j := 8) rfl).1
    rw [h5]
    go_wp2
    go_ret
    exact ⟨ret_bool' HR.out.symm, HG.out⟩
  by_cases h7 : decide (max z.wd z.ln ≤ 20000) = true
  rotate_left
  · skip
    try simp only [Bool.not_eq_true] at h7
    have HR := Lib.hid (show lfB z = false by rw [HB.out]; simp only [*, Bool.false_and, Bool.and_false, Bool.and_true, Bool.true_and])
    go_enter Tryd.func59, Tryd.ntmps59
    go_wp2_with fail
    refine (name_impl z.id _ M0.out).mono ?_
    rintro e w1 ⟨rfl, rfl⟩
    rw [h1]
    go_wp2_with fail
    refine (name_impl z.fl _ M1.out).mono ?_
    rintro e w1 ⟨rfl, rfl⟩
    rw [h2]
    go_wp2_with fail
    refine (valid_vimpl _ _ _ _ HT.out).mono ?_
    rintro e w1 ⟨rfl, g1⟩
    have HG := Lib.hid (bseq HA.out g1)
    have HX1 := Lib.hid ((g1.block _ (blk_lt HX.out)).trans HX.out)
    clear g1
    have hz := blk_lt HX1.out
    have a0 := (cell_of_arr HX1.out (j := 0) rfl).1
    have a1 := (cell_of_arr HX1.out (j := 1) rfl).1
    have a2 := (cell_of_arr HX1.out (j := 2) rfl).1
    have a3 := (cell_of_arr HX1.out (j := 3) rfl).1
    have a4 := (cell_of_arr HX1.out (j := 4) rfl).1
    have a5 := (cell_of_arr HX1.out (j := 5) rfl).1
    have a6 := (cell_of_arr HX1.out (j := 6) rfl).1
    have a7 := (cell_of_arr HX1.out (j := 7) rfl).1
    have a8 := (cell_of_arr HX1.out (j := 8) rfl).1
    rw [h5]
    go_wp2
    go_ret
    exact ⟨ret_bool' HR.out.symm, HG.out⟩
  by_cases h8 : dfB z = true
  rotate_left
  · skip
    try simp only [Bool.not_eq_true] at h8
    have HR := Lib.hid (show lfB z = false by rw [HB.out]; simp only [*, Bool.false_and, Bool.and_false, Bool.and_true, Bool.true_and])
    have HWL := Lib.hid (show (10 ≤ z.wd ∧ z.wd ≤ 20000) ∧ (10 ≤ z.ln ∧ z.ln ≤ 20000) by have := of_decide_eq_true h6; have := of_decide_eq_true h7; omega)
    go_enter Tryd.func59, Tryd.ntmps59
    go_wp2_with fail
    refine (name_impl z.id _ M0.out).mono ?_
    rintro e w1 ⟨rfl, rfl⟩
    rw [h1]
    go_wp2_with fail
    refine (name_impl z.fl _ M1.out).mono ?_
    rintro e w1 ⟨rfl, rfl⟩
    rw [h2]
    go_wp2_with fail
    refine (valid_vimpl _ _ _ _ HT.out).mono ?_
    rintro e w1 ⟨rfl, g1⟩
    have HG := Lib.hid (bseq HA.out g1)
    have HX1 := Lib.hid ((g1.block _ (blk_lt HX.out)).trans HX.out)
    clear g1
    have hz := blk_lt HX1.out
    have a0 := (cell_of_arr HX1.out (j := 0) rfl).1
    have a1 := (cell_of_arr HX1.out (j := 1) rfl).1
    have a2 := (cell_of_arr HX1.out (j := 2) rfl).1
    have a3 := (cell_of_arr HX1.out (j := 3) rfl).1
    have a4 := (cell_of_arr HX1.out (j := 4) rfl).1
    have a5 := (cell_of_arr HX1.out (j := 5) rfl).1
    have a6 := (cell_of_arr HX1.out (j := 6) rfl).1
    have a7 := (cell_of_arr HX1.out (j := 7) rfl).1
    have a8 := (cell_of_arr HX1.out (j := 8) rfl).1
    rw [h5]
    go_wp2_with fail
    refine (df_impl _ z _ (HV.out.below HG.out) HWL.out.1 HWL.out.2).mono ?_
    rintro e w2 ⟨rfl, g2⟩
    have HG2 := Lib.hid (bseq HG.out g2)
    clear g2
    rw [h8]
    go_wp2
    go_ret
    exact ⟨ret_bool' HR.out.symm, HG2.out⟩
  try simp only [Bool.not_eq_true] at h9
  have HR := Lib.hid (show lfB z = true by rw [HB.out]; simp only [*, Bool.false_and, Bool.and_false, Bool.and_true, Bool.true_and])
  have HWL := Lib.hid (show (10 ≤ z.wd ∧ z.wd ≤ 20000) ∧ (10 ≤ z.ln ∧ z.ln ≤ 20000) by have := of_decide_eq_true h6; have := of_decide_eq_true h7; omega)
  go_enter Tryd.func59, Tryd.ntmps59
  go_wp2_with fail
  refine (name_impl z.id _ M0.out).mono ?_
  rintro e w1 ⟨rfl, rfl⟩
  rw [h1]
  go_wp2_with fail
  refine (name_impl z.fl _ M1.out).mono ?_
  rintro e w1 ⟨rfl, rfl⟩
  rw [h2]
  go_wp2_with fail
  refine (valid_vimpl _ _ _ _ HT.out).mono ?_
  rintro e w1 ⟨rfl, g1⟩
  have HG := Lib.hid (bseq HA.out g1)
  have HX1 := Lib.hid ((g1.block _ (blk_lt HX.out)).trans HX.out)
  clear g1
  have hz := blk_lt HX1.out
  have a0 := (cell_of_arr HX1.out (j := 0) rfl).1
  have a1 := (cell_of_arr HX1.out (j := 1) rfl).1
  have a2 := (cell_of_arr HX1.out (j := 2) rfl).1
  have a3 := (cell_of_arr HX1.out (j := 3) rfl).1
  have a4 := (cell_of_arr HX1.out (j := 4) rfl).1
  have a5 := (cell_of_arr HX1.out (j := 5) rfl).1
  have a6 := (cell_of_arr HX1.out (j := 6) rfl).1
  have a7 := (cell_of_arr HX1.out (j := 7) rfl).1
  have a8 := (cell_of_arr HX1.out (j := 8) rfl).1
  rw [h5]
  go_wp2_with fail
  refine (df_impl _ z _ (HV.out.below HG.out) HWL.out.1 HWL.out.2).mono ?_
  rintro e w2 ⟨rfl, g2⟩
  have HG2 := Lib.hid (bseq HG.out g2)
  clear g2
  rw [h8]
  go_wp2
  go_ret
  exact ⟨ret_bool' HR.out.symm, HG2.out⟩
end Go.Proofs.YthocpiklbcahgaaDoor
