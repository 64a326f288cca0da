/- The first defect at a place: impl. -/
import Derived.Test.YtonpenccppcgjaaDoorLea5
import Derived.Test.YtonpenccppcgjaaDoorLea3
import Derived.Test.YtonpenccppcgjaaDoorWcDefectAt
import Derived.Test.YtonpenccppcgjaaDoorErr4
import Derived.Test.YtonpenccppcgjaaDoorK5
namespace Go.Proofs.YtonpenccppcgjaaDoor
open Seq2 Go.ChangeShapes Go.WideShapes Go.ChangeAt Go.RowKit
set_option linter.unusedVariables false
set_option linter.unusedSimpArgs false

/-- The surface of a leaf, as a value. -/
def sfV (W L : Int) (ao : Option Addr) (n c : Nat) : Value := .agg #[.int .i64 0, .int .i64 0, .int .i64 W, .int .i64 L, .slice ao n c]
def ixD (z : Bx) (ds : List Bx) : Int := firstIx (fun j => metB z (ds.getD j bx0)) ds.length
set_option maxRecDepth 100000 in
set_option maxHeartbeats 4000000 in
theorem ixfn_impl (ao : Option Addr) (n c : Nat) (ds : List Bx) (x y a b : Int) (w : World) (hn : n ≤ 1048576) (hv : BxV w ao n ds) (hz : bxS (x, y, a, b)) (hd : ∀ j, j < n → bxS (ds.getD j bx0)) :
    Calls Tryd.prog 147 #[.slice ao n c, .func (.func 131) #[.agg #[.int .i64 x, .int .i64 y, .int .i64 a, .int .i64 b]] #[]] w fun e w' => e = .returned (.int .i64 (ixD (x, y, a, b) ds)) ∧ Below w.heap.size w w' := by
  have HV := Lib.hid hv
  have HN := Lib.hid hv.1
  have HZ := Lib.hid hz
  have HD := Lib.hid hd
  clear hv hz hd
  go_enter Tryd.func147, Tryd.ntmps147
  go_wp2
  go_loopw [8] (fun iv wr => ∃ k : Nat, k ≤ n ∧ iv = .int .i64 k ∧ Hid (∀ j, j < k → metB (x, y, a, b) (ds.getD j bx0) = false) ∧ Hid (Below w.heap.size w wr)) (fun i _ => n - (intOf i).toNat)
  case atStart => exact ⟨0, by omega, rfl, Lib.hid (fun j hj => absurd hj (by omega)), Lib.hid (Below.refl _ _)⟩
  case round =>
    obtain ⟨k, hk, rfl, hi, hb⟩ := hrel
    by_cases hlt : k < n
    · obtain ⟨q, rfl, hbx⟩ := (HV.out.below hb.out).2.resolve_left (by omega)
      obtain ⟨hbw, v0, v1, v2, v3⟩ := hbx k hlt
      clear hbx
      have hdk := HD.out k hlt
      obtain ⟨d, hd⟩ : ∃ d, ds.getD k bx0 = d := ⟨_, rfl⟩
      rw [hd] at v0 v1 v2 v3 hdk
      have HDK := Lib.hid hd
      clear hd
      obtain ⟨x', y', a', b'⟩ := d
      simp only at v0 v1 v2 v3
      have HDS := Lib.hid hdk
      clear hdk
      go_wp2_with fail
      refine (meets_impl x y a b x' y' a' b' _ HZ.out HDS.out).mono ?_
      rintro e w1 ⟨rfl, g1⟩
      have HG := Lib.hid (hb.out.trans (g1.mono hb.out.size))
      clear g1
      cases hs : metB (x, y, a, b) (x', y', a', b') with
      | true =>
        have HR := Lib.hid (show ixD (x, y, a, b) ds = (k : Int) from firstIx_at hi.out (by rw [HDK.out]; exact hs) _ (by have := HN.out; omega))
        go_wp2
        go_ret
        exact ⟨ret_int HR.out.symm, HG.out⟩
      | false =>
        go_wp2
        go_roundw
        case rel => exact ⟨k + 1, by omega, by go_num, Lib.hid (fun j hj => (Nat.lt_succ_iff_lt_or_eq.1 hj).elim (hi.out j) (fun e => by subst e; rw [HDK.out]; exact hs)), HG⟩
        case measure => simp [intOf]; omega
    · obtain rfl : k = n := by omega
      have HR := Lib.hid (show ixD (x, y, a, b) ds = -1 from firstIx_none (by rw [← HN.out]; exact hi.out))
      go_wp2
      go_ret
      exact ⟨ret_int HR.out.symm, hb.out⟩
set_option maxRecDepth 100000 in
set_option maxHeartbeats 4000000 in
theorem fdef_impl (W L : Int) (ao : Option Addr) (n c : Nat) (ds : List Bx) (x y a b : Int) (w : World) (hn : n ≤ 1048576) (hv : BxV w ao n ds) (hz : bxS (x, y, a, b)) (hd : ∀ j, j < n → bxS (ds.getD j bx0)) :
    Calls Tryd.prog 108 #[sfV W L ao n c, .agg #[.int .i64 x, .int .i64 y, .int .i64 a, .int .i64 b]] w fun e w' => e = .returned (.int .i64 (ixD (x, y, a, b) ds)) ∧ Below w.heap.size w w' := by
  have HA := Lib.hid (two_allocs (w := w) (.cells #[.int .i64 0, .int .i64 0, .int .i64 W, .int .i64 L, .slice ao n c] 87) (.cells #[.int .i64 x, .int .i64 y, .int .i64 a, .int .i64 b] 63))
  have HV := Lib.hid (hv.below HA.out)
  have HD := Lib.hid hd
  have HZ := Lib.hid hz
  clear hv hd hz
  unfold sfV
  go_enter Tryd.func108, Tryd.ntmps108
  go_wp2_with fail
  refine (ixfn_impl ao n c ds x y a b _ hn HV.out HZ.out HD.out).mono ?_
  rintro e w1 ⟨rfl, g1⟩
  have HG := Lib.hid (bseq HA.out g1)
  clear g1
  go_wp2
  go_ret
  exact ⟨rfl, HG.out⟩
set_option maxRecDepth 100000 in
set_option maxHeartbeats 4000000 in
theorem surf_impl (v : Value) (z : Lf) (ao : Option Addr) (n c : Nat) (w : World) (h : v = .agg #[.string z.id, .string z.fl, .int .i64 z.nu, .string z.ve.1, .int .i64 z.ve.2.1, .int .i64 z.ve.2.2, .int .i64 z.wd, .int .i64 z.ln, .slice ao n c]) :
    Calls Tryd.prog 63 #[v] w fun e w' => e = .returned (sfV z.wd z.ln ao n c) ∧ Below w.heap.size w w' := by
  subst h
  go_enter Tryd.func63, Tryd.ntmps63
  go_wp2
  refine bodyPost_ret (v := sfV z.wd z.ln ao n c) (by simp [results, Tryd.results63, go_sem, sfV]) rfl ⟨rfl, ?_⟩
  have HB0 := Below.refl w.heap.size w
  (repeat (first | exact HB0 | refine Below.setCell ?_ (by first | exact Nat.le_refl _ | (dsimp only; omega) | (simp; done) | (simp; omega)) _ | refine Below.alloc ?_ (by first | exact Nat.le_refl _ | omega | (simp; done) | (simp; omega)) _))
/-- The place of a point, and the answer with its error. -/
def inD (W L x y : Int) : Bool := inI x 0 (W - 1) && inI y 0 (L - 1)
theorem inD_box (W L x y : Int) : boxW (x, y, 1, 1) W L = inD W L x y := by
  rw [Bool.eq_iff_iff, boxW_iff]
  simp only [inD, inI, Bool.and_eq_true, decide_eq_true_eq]
  omega
def dfO (E : ErrA) (z : Lf) (x y : Int) : Int × Value := if inD z.wd z.ln x y then (if ixD (x, y, 1, 1) z.df < 0 then (0, esV E.n) else (ixD (x, y, 1, 1) z.df, .nilIface)) else (0, esV E.r)
theorem lfB_df {z : Lf} (h : lfB z = true) : (10 ≤ z.wd ∧ z.wd ≤ 20000) ∧ (10 ≤ z.ln ∧ z.ln ≤ 20000) ∧ z.df.length ≤ 6 ∧ ∀ j, j < z.df.length → boxW (z.df.getD j bx0) z.wd z.ln = true := by
  simp only [lfB, Bool.and_eq_true, decide_eq_true_eq, inI_iff, dfsB, List.all_eq_true] at h
  refine ⟨h.2.2.2.2.1, h.2.2.2.2.2.1, h.2.2.2.2.2.2.1, fun j hj => ?_⟩
  rw [List.getD_eq_getElem?_getD, List.getElem?_eq_getElem hj]
  exact h.2.2.2.2.2.2.2 _ (List.getElem_mem hj)
set_option maxRecDepth 100000 in
set_option maxHeartbeats 8000000 in
theorem dat_impl (E : ErrA) (z : Lf) (ao : Option Addr) (n c : Nat) (x y : Int) (w : World) (hB : lfB z = true) (hn : n ≤ 1048576) (hv : BxV w ao n z.df) (he : Errs w E) :
    Calls Tryd.prog 64 #[sfV z.wd z.ln ao n c, .int .i64 x, .int .i64 y] w fun e w' => e = .returned (.tuple #[.int .i64 ((dfO E z x y).1), (dfO E z x y).2]) ∧ Below w.heap.size w w' := by
  obtain ⟨hW, hL, h6, hdf⟩ := lfB_df hB
  have HWL := Lib.hid (show (0 ≤ z.wd ∧ z.wd ≤ 20000) ∧ (0 ≤ z.ln ∧ z.ln ≤ 20000) by omega)
  have HS := Lib.hid (fun j (hj : j < n) => bxS_of (hdf j (by rw [← hv.1]; exact hj)) hW.2 hL.2)
  have HA := Lib.hid (one_alloc (w := w) (.cells #[.int .i64 0, .int .i64 0, .int .i64 z.wd, .int .i64 z.ln, .slice ao n c] 87))
  have HX := Lib.hid (World.alloc_heap_new w (.cells #[.int .i64 0, .int .i64 0, .int .i64 z.wd, .int .i64 z.ln, .slice ao n c] 87))
  have HX2 := Lib.hid ((Below.heap_alloc (w.alloc (.cells #[.int .i64 0, .int .i64 0, .int .i64 z.wd, .int .i64 z.ln, .slice ao n c] 87)) (.cells #[.int .i64 x, .int .i64 y, .int .i64 1, .int .i64 1] 63) w.heap.size (by simp)).trans HX.out)
  have hp := World.alloc_heap_new (w.alloc (.cells #[.int .i64 0, .int .i64 0, .int .i64 z.wd, .int .i64 z.ln, .slice ao n c] 87)) (.cells #[.int .i64 x, .int .i64 y, .int .i64 1, .int .i64 1] 63)
  rw [show (w.alloc (.cells #[.int .i64 0, .int .i64 0, .int .i64 z.wd, .int .i64 z.ln, .slice ao n c] 87)).heap.size = w.heap.size + 1 by simp] at hp
  have HP2 := Lib.hid hp
  clear hp
  have HV := Lib.hid hv
  have HE := Lib.hid he
  have HBX := Lib.hid (inD_box z.wd z.ln x y)
  clear hW hL h6 hdf hv he hB
  unfold sfV
  cases h1 : inD z.wd z.ln x y with
  | false =>
    have HR := Lib.hid (show dfO E z x y = (0, esV E.r) by unfold dfO; rw [h1]; rfl)
    rw [HR.out]
    unfold esV
    go_enter Tryd.func64, Tryd.ntmps64
    go_wp2_with fail
    refine (within_impl x y 1 1 z.wd z.ln _ HWL.out.1 HWL.out.2).mono ?_
    rintro e w1 ⟨rfl, g1⟩
    have HG := Lib.hid (bseq (two_allocs _ _) g1)
    clear g1
    rw [HBX.out, h1]
    go_wp2
    have c0 := (HE.out.below HG.out).R.cell
    have l0 := (HE.out.below HG.out).R.lt
    refine wp_region_below (by kernel_rfl) (by kernel_rfl) ?_
    repeat (first | (refine wq_val ?_ ?_; (focus (go_simp; done)); apply Exists.intro; refine ⟨fun w1 hw1 => ?_, ?_⟩; (obtain ⟨hc, hf⟩ := bcell hw1; clear hw1; go_simp; (first | done | with_reducible rfl | (with_reducible exact eql2 _ _ _) | (with_reducible exact neq2 _ _ _))); (try simp only [Act.put, List.setIfInBounds_toArray, List.set_cons_zero, List.set_cons_succ])) | (refine wq_skip ?_ ?_; (focus (go_simp; (first | done | (simp [undef]; done)))); (try simp only [Act.put, List.setIfInBounds_toArray, List.set_cons_zero, List.set_cons_succ])))
    refine wq_nil ?_
    intro w2 hb2
    have HB2 := Lib.hid (bseq HG.out hb2)
    clear hb2
    go_wp2
    go_ret2
    exact ⟨rfl, HB2.out⟩
  | true =>
    have hbx : bxS (x, y, 1, 1) := bxS_of ((inD_box z.wd z.ln x y).trans h1) HWL.out.1.2 HWL.out.2.2
    have HBS := Lib.hid hbx
    clear hbx
    by_cases h2 : ixD (x, y, 1, 1) z.df < 0
    · have HR := Lib.hid (show dfO E z x y = (0, esV E.n) by unfold dfO; rw [h1, if_pos rfl, if_pos h2])
      have hd2 : decide (ixD (x, y, 1, 1) z.df < 0) = true := by simpa using h2
      rw [HR.out]
      unfold esV
      go_enter Tryd.func64, Tryd.ntmps64
      go_wp2_with fail
      refine (within_impl x y 1 1 z.wd z.ln _ HWL.out.1 HWL.out.2).mono ?_
      rintro e w1 ⟨rfl, g1⟩
      have HG := Lib.hid (bseq (two_allocs _ _) g1)
      have hx1 := (g1.block w.heap.size (by simp; omega)).trans HX2.out
      have hp1 := (g1.block (w.heap.size + 1) (by simp)).trans HP2.out
      clear g1
      rw [HBX.out, h1]
      have hz := blk_lt hx1
      have a0 := (cell_of_arr hx1 (j := 0) rfl).1
      have a1 := (cell_of_arr hx1 (j := 1) rfl).1
      have a2 := (cell_of_arr hx1 (j := 2) rfl).1
      have a3 := (cell_of_arr hx1 (j := 3) rfl).1
      have a4 := (cell_of_arr hx1 (j := 4) rfl).1
      have hp := blk_lt hp1
      have p0 := (cell_of_arr hp1 (j := 0) rfl).1
      have p1 := (cell_of_arr hp1 (j := 1) rfl).1
      have p2 := (cell_of_arr hp1 (j := 2) rfl).1
      have p3 := (cell_of_arr hp1 (j := 3) rfl).1
      clear hx1 hp1
      go_wp2_with fail
      refine (fdef_impl z.wd z.ln ao n c z.df x y 1 1 _ hn (HV.out.below HG.out) HBS.out HS.out).mono ?_
      rintro e w2 ⟨rfl, g2⟩
      have HG2 := Lib.hid (bseq HG.out g2)
      clear g2
      go_wp2
      have c0 := (HE.out.below HG2.out).N.cell
      have l0 := (HE.out.below HG2.out).N.lt
      refine wp_region_below (by kernel_rfl) (by kernel_rfl) ?_
      repeat (first | (refine wq_val ?_ ?_; (focus (go_simp; done)); apply Exists.intro; refine ⟨fun w1 hw1 => ?_, ?_⟩; (obtain ⟨hc, hf⟩ := bcell hw1; clear hw1; go_simp; (first | done | with_reducible rfl | (with_reducible exact eql2 _ _ _) | (with_reducible exact neq2 _ _ _))); (try simp only [Act.put, List.setIfInBounds_toArray, List.set_cons_zero, List.set_cons_succ])) | (refine wq_skip ?_ ?_; (focus (go_simp; (first | done | (simp [undef]; done)))); (try simp only [Act.put, List.setIfInBounds_toArray, List.set_cons_zero, List.set_cons_succ])))
      refine wq_nil ?_
      intro w3 hb3
      have HB3 := Lib.hid (bseq HG2.out hb3)
      clear hb3
      go_wp2
      go_ret2
      exact ⟨rfl, HB3.out⟩
    · have HR := Lib.hid (show dfO E z x y = (ixD (x, y, 1, 1) z.df, .nilIface) by unfold dfO; rw [h1, if_pos rfl, if_neg h2])
      have hd2 : decide (ixD (x, y, 1, 1) z.df < 0) = false := by simpa using h2
      rw [HR.out]
      go_enter Tryd.func64, Tryd.ntmps64
      go_wp2_with fail
      refine (within_impl x y 1 1 z.wd z.ln _ HWL.out.1 HWL.out.2).mono ?_
      rintro e w1 ⟨rfl, g1⟩
      have HG := Lib.hid (bseq (two_allocs _ _) g1)
      have hx1 := (g1.block w.heap.size (by simp; omega)).trans HX2.out
      have hp1 := (g1.block (w.heap.size + 1) (by simp)).trans HP2.out
      clear g1
      rw [HBX.out, h1]
      have hz := blk_lt hx1
      have a0 := (cell_of_arr hx1 (j := 0) rfl).1
      have a1 := (cell_of_arr hx1 (j := 1) rfl).1
      have a2 := (cell_of_arr hx1 (j := 2) rfl).1
      have a3 := (cell_of_arr hx1 (j := 3) rfl).1
      have a4 := (cell_of_arr hx1 (j := 4) rfl).1
      have hp := blk_lt hp1
      have p0 := (cell_of_arr hp1 (j := 0) rfl).1
      have p1 := (cell_of_arr hp1 (j := 1) rfl).1
      have p2 := (cell_of_arr hp1 (j := 2) rfl).1
      have p3 := (cell_of_arr hp1 (j := 3) rfl).1
      clear hx1 hp1
      go_wp2_with fail
      refine (fdef_impl z.wd z.ln ao n c z.df x y 1 1 _ hn (HV.out.below HG.out) HBS.out HS.out).mono ?_
      rintro e w2 ⟨rfl, g2⟩
      have HG2 := Lib.hid (bseq HG.out g2)
      clear g2
      go_wp2
      go_ret2
      exact ⟨rfl, HG2.out⟩
end Go.Proofs.YtonpenccppcgjaaDoor
