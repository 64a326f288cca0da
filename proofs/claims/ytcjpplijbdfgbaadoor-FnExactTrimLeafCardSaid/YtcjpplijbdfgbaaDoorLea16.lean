/- A leaf cut to a box: mathematics, spec. -/
import Derived.Test.YtcjpplijbdfgbaaDoorLfS
import Derived.Test.YtcjpplijbdfgbaaDoorVen4
import Derived.Test.YtcjpplijbdfgbaaDoorK2
namespace Go.Proofs.YtcjpplijbdfgbaaDoor
open Seq2 Go.ChangeShapes Go.WideShapes Go.ChangeAt Go.RowKit
set_option linter.unusedVariables false
set_option linter.unusedSimpArgs false

def cutB (d b : Bx) : Bx := (grtI d.1 b.1 - b.1, grtI d.2.1 b.2.1 - b.2.1, lesI (d.1 + d.2.2.1) (b.1 + b.2.2.1) - grtI d.1 b.1, lesI (d.2.1 + d.2.2.2) (b.2.1 + b.2.2.2) - grtI d.2.1 b.2.1)
def tmD (z : Lf) (b : Bx) (k : Nat) : List Bx := ((z.df.take k).filter (fun d => metB d b)).map (fun d => cutB d b)
theorem tmD_yes {z : Lf} {b : Bx} {k : Nat} (hk : k < z.df.length) (h : metB (z.df.getD k bx0) b = true) : tmD z b (k + 1) = tmD z b k ++ [cutB (z.df.getD k bx0) b] := by
  unfold tmD
  have e : z.df.getD k bx0 = z.df[k] := by simp [hk]
  rw [e] at h ⊢
  rw [List.take_succ_eq_append_getElem hk, List.filter_append, List.map_append]
  simp [h]
theorem tmD_no {z : Lf} {b : Bx} {k : Nat} (hk : k < z.df.length) (h : metB (z.df.getD k bx0) b = false) : tmD z b (k + 1) = tmD z b k := by
  unfold tmD
  have e : z.df.getD k bx0 = z.df[k] := by simp [hk]
  rw [e] at h
  rw [List.take_succ_eq_append_getElem hk, List.filter_append, List.map_append]
  simp [h]
theorem tmD_len (z : Lf) (b : Bx) (k : Nat) : (tmD z b k).length ≤ k := by
  unfold tmD
  rw [List.length_map]
  exact Nat.le_trans (List.length_filter_le _ _) (by simp; omega)
def tmZ (z : Lf) (b : Bx) : Lf := { z with wd := b.2.2.1, ln := b.2.2.2, df := tmD z b z.df.length }
def tmR (z : Lf) (b : Bx) : Lf × Int := if lfB z then (if boxW b z.wd z.ln then (if 10 ≤ b.2.2.1 then (if 10 ≤ b.2.2.2 then (tmZ z b, 0) else (lf0, 6)) else (lf0, 6)) else (lf0, 2)) else (lf0, 1)
theorem lfW0 (sv : Value) : lfW lf0 sv = .agg #[.string ⟨#[]⟩, .string ⟨#[]⟩, .int .i64 0, .string ⟨#[]⟩, .int .i64 0, .int .i64 0, .int .i64 0, .int .i64 0, sv] := rfl
theorem grt_bd {a b l h : Int} (ha : l ≤ a ∧ a ≤ h) (hb : l ≤ b ∧ b ≤ h) : l ≤ grtI a b ∧ grtI a b ≤ h := by unfold grtI; split <;> omega
theorem les_bd {a b l h : Int} (ha : l ≤ a ∧ a ≤ h) (hb : l ≤ b ∧ b ≤ h) : l ≤ lesI a b ∧ lesI a b ≤ h := by unfold lesI; split <;> omega
theorem lfB_dfz {z : Lf} (h : lfB z = true) : (10 ≤ z.wd ∧ z.wd ≤ 20000) ∧ (10 ≤ z.ln ∧ z.ln ≤ 20000) ∧ z.df.length ≤ 6 ∧ ∀ j, j < z.df.length → boxW (z.df.getD j bx0) z.wd z.ln = true := by
  simp only [lfB, Bool.and_eq_true, decide_eq_true_eq, inI_iff, dfsB, List.all_eq_true] at h
  refine ⟨h.2.2.2.2.1, h.2.2.2.2.2.1, h.2.2.2.2.2.2.1, fun j hj => ?_⟩
  rw [List.getD_eq_getElem?_getD, List.getElem?_eq_getElem hj]
  exact h.2.2.2.2.2.2.2 _ (List.getElem_mem hj)
/-- The beginning of spec.TrimLeaf: three boxes. -/
structure TmSt (W : World) (p : Nat) (z : Lf) (ao : Option Addr) (n c : Nat) (x y a b : Int) : Prop where
  lf : W.heap[p]? = some (.cells #[.string z.id, .string z.fl, .int .i64 z.nu, .string z.ve.1, .int .i64 z.ve.2.1, .int .i64 z.ve.2.2, .int .i64 z.wd, .int .i64 z.ln, .slice ao n c] 33 (0, 0))
  bx : W.heap[p + 1]? = some (.cells #[.int .i64 x, .int .i64 y, .int .i64 a, .int .i64 b] 37 (0, 0))
  rs : W.heap[p + 1 + 1]? = some (.cells #[.string ⟨#[]⟩, .string ⟨#[]⟩, .int .i64 0, .string ⟨#[]⟩, .int .i64 0, .int .i64 0, .int .i64 0, .int .i64 0, .slice none 0 0] 33 (0, 0))
theorem TmSt.below {W W' : World} {p : Nat} {z : Lf} {ao : Option Addr} {n c : Nat} {x y a b : Int} (h : TmSt W p z ao n c x y a b) (hb : Below W.heap.size W W') : TmSt W' p z ao n c x y a b :=
  ⟨(hb.block _ (blk_lt h.lf)).trans h.lf, (hb.block _ (blk_lt h.bx)).trans h.bx, (hb.block _ (blk_lt h.rs)).trans h.rs⟩
theorem TmSt.box {W : World} {p : Nat} {z : Lf} {ao : Option Addr} {n c : Nat} {x y a b : Int} (h : TmSt W p z ao n c x y a b) : BxAt W (p + 1) 0 (x, y, a, b) :=
  ⟨blk_lt h.bx, (cell_of_arr h.bx (j := 0) rfl).1, (cell_of_arr h.bx (j := 1) rfl).1, (cell_of_arr h.bx (j := 2) rfl).1, (cell_of_arr h.bx (j := 3) rfl).1⟩
theorem tm_start (w : World) (z : Lf) (ao : Option Addr) (n c : Nat) (x y a b : Int) : TmSt (((w.alloc (.cells #[.string z.id, .string z.fl, .int .i64 z.nu, .string z.ve.1, .int .i64 z.ve.2.1, .int .i64 z.ve.2.2, .int .i64 z.wd, .int .i64 z.ln, .slice ao n c] 33)).alloc (.cells #[.int .i64 x, .int .i64 y, .int .i64 a, .int .i64 b] 37)).alloc (.cells #[.string ⟨#[]⟩, .string ⟨#[]⟩, .int .i64 0, .string ⟨#[]⟩, .int .i64 0, .int .i64 0, .int .i64 0, .int .i64 0, .slice none 0 0] 33)) w.heap.size z ao n c x y a b := by
  have hs := ToSt.start w (.cells #[.string z.id, .string z.fl, .int .i64 z.nu, .string z.ve.1, .int .i64 z.ve.2.1, .int .i64 z.ve.2.2, .int .i64 z.wd, .int .i64 z.ln, .slice ao n c] 33) (.cells #[.int .i64 x, .int .i64 y, .int .i64 a, .int .i64 b] 37) (.cells #[.string ⟨#[]⟩, .string ⟨#[]⟩, .int .i64 0, .string ⟨#[]⟩, .int .i64 0, .int .i64 0, .int .i64 0, .int .i64 0, .slice none 0 0] 33)
  exact ⟨hs.a, hs.r, hs.o⟩
set_option maxRecDepth 100000 in
set_option maxHeartbeats 16000000 in
theorem tm_spec (v : Value) (z : Lf) (x y a b : Int) (w : World) (hv : LfV w v z) :
    Calls Tryd.prog 12 #[v, .agg #[.int .i64 x, .int .i64 y, .int .i64 a, .int .i64 b]] w (NewLf (tmR z (x, y, a, b)) w) := by
  unfold NewLf
  have HZ0 := Lib.hid (hv.at 33)
  obtain ⟨ao, n, c, rfl, _, _, _, _, _, _, _, hn, hd⟩ := hv.out
  have hA := three_allocs (w := w) (.cells #[.string z.id, .string z.fl, .int .i64 z.nu, .string z.ve.1, .int .i64 z.ve.2.1, .int .i64 z.ve.2.2, .int .i64 z.wd, .int .i64 z.ln, .slice ao n c] 33) (.cells #[.int .i64 x, .int .i64 y, .int .i64 a, .int .i64 b] 37) (.cells #[.string ⟨#[]⟩, .string ⟨#[]⟩, .int .i64 0, .string ⟨#[]⟩, .int .i64 0, .int .i64 0, .int .i64 0, .int .i64 0, .slice none 0 0] 33)
  have HA := Lib.hid hA
  have HS := Lib.hid (tm_start w z ao n c x y a b)
  have HZ := Lib.hid (HZ0.out.below (two_allocs (.cells #[.int .i64 x, .int .i64 y, .int .i64 a, .int .i64 b] 37) (.cells #[.string ⟨#[]⟩, .string ⟨#[]⟩, .int .i64 0, .string ⟨#[]⟩, .int .i64 0, .int .i64 0, .int .i64 0, .int .i64 0, .slice none 0 0] 33)))
  have HV := Lib.hid (hd.below hA)
  have HNZ := Lib.hid hd.1
  clear hv hd hA HZ0
  obtain ⟨i0, hi, hz0, hz1', hz2'⟩ := info_parts infoBx
  cases hB : lfB z with
  | false =>
    have HR := Lib.hid (show tmR z (x, y, a, b) = (lf0, 1) by unfold tmR; rw [hB]; rfl)
    rw [HR.out]
    go_enter Tryd.func12, Tryd.ntmps12
    go_wp2_with fail
    refine (one_lea _ _ z _ HZ.out).mono ?_
    rintro e w1 ⟨rfl, g1⟩
    have HG := Lib.hid (bseq HA.out g1)
    have HS1 := Lib.hid (HS.out.below g1)
    clear g1
    rw [hB]
    obtain ⟨hzl, c0, f0, c1, f1, c2, f2, c3, f3, c4, f4, c5, f5, c6, f6, c7, f7, c8, f8⟩ := cells9_of HS1.out.rs
    go_wp2
    have hq := (st9 (x0 := .string ⟨#[]⟩) (x1 := .string ⟨#[]⟩) (x2 := .int .i64 0) (x3 := .string ⟨#[]⟩) (x4 := .int .i64 0) (x5 := .int .i64 0) (x6 := .int .i64 0) (x7 := .int .i64 0) (x8 := .slice none 0 0) HS1.out.rs)
    obtain ⟨_, q0, _, q1, _, q2, _, q3, _, q4, _, q5, _, q6, _, q7, _, q8, _⟩ := cells9_of hq
    refine bodyPost_ret (v := .tuple #[lfW lf0 (.slice none 0 0), .int .i64 1]) ?_ rfl ⟨_, rfl, OwnBx.nil _ _, ?_⟩
    · clear hq c0 f0 c1 f1 c2 f2 c3 f3 c4 f4 c5 f5 c6 f6 c7 f7 c8 f8
      generalize World.setCell _ _ _ = W at *
      simp [results, Tryd.results12, go_sem, q0, q1, q2, q3, q4, q5, q6, q7, q8, lfW0]
    · exact bel9 HG.out (by omega)
  | true =>
    obtain ⟨hW, hL, h6, hdf⟩ := lfB_dfz hB
    have HWL := Lib.hid (show (0 ≤ z.wd ∧ z.wd ≤ 20000) ∧ (0 ≤ z.ln ∧ z.ln ≤ 20000) by omega)
    have HDF := Lib.hid hdf
    have hn6 : n ≤ 6 := by have := HNZ.out; omega
    clear hW hL h6 hdf
    by_cases h1 : boxW (x, y, a, b) z.wd z.ln = true
    rotate_left
    · skip
      simp only [Bool.not_eq_true] at h1
      have HR := Lib.hid (show tmR (z) (x, y, a, b) = (lf0, 2) by unfold tmR; rw [hB, h1]; rfl)
      rw [HR.out]
      go_enter Tryd.func12, Tryd.ntmps12
      go_wp2_with fail
      refine (one_lea _ _ z _ HZ.out).mono ?_
      rintro e w1 ⟨rfl, g1⟩
      have HG := Lib.hid (bseq HA.out g1)
      have HS1 := Lib.hid (HS.out.below g1)
      have HV1 := Lib.hid (HV.out.below g1)
      clear g1
      rw [hB]
      have hz := blk_lt HS1.out.lf
      have a6 := (cell_of_arr HS1.out.lf (j := 6) rfl).1
      have a7 := (cell_of_arr HS1.out.lf (j := 7) rfl).1
      go_wp2_with fail
      refine (box_spec (w.heap.size + 1) 0 (x, y, a, b) z.wd z.ln _ HS1.out.box HWL.out.1 HWL.out.2).mono ?_
      rintro e w2 ⟨rfl, g2⟩
      have HG2 := Lib.hid (bseq HG.out g2)
      have HS2 := Lib.hid (HS1.out.below g2)
      have HV2 := Lib.hid (HV1.out.below g2)
      rw [h1]
      clear g2 hz a6 a7
      obtain ⟨hz1, b0, b1, b2, b3⟩ := HS2.out.box
      obtain ⟨hzl, c0, f0, c1, f1, c2, f2, c3, f3, c4, f4, c5, f5, c6, f6, c7, f7, c8, f8⟩ := cells9_of HS2.out.rs
      go_wp2
      have hq := (st9 (x0 := .string ⟨#[]⟩) (x1 := .string ⟨#[]⟩) (x2 := .int .i64 0) (x3 := .string ⟨#[]⟩) (x4 := .int .i64 0) (x5 := .int .i64 0) (x6 := .int .i64 0) (x7 := .int .i64 0) (x8 := .slice none 0 0) HS2.out.rs)
      obtain ⟨_, q0, _, q1, _, q2, _, q3, _, q4, _, q5, _, q6, _, q7, _, q8, _⟩ := cells9_of hq
      refine bodyPost_ret (v := .tuple #[lfW lf0 (.slice none 0 0), .int .i64 2]) ?_ rfl ⟨_, rfl, OwnBx.nil _ _, bel9 HG2.out (by omega)⟩
      clear hq c0 f0 c1 f1 c2 f2 c3 f3 c4 f4 c5 f5 c6 f6 c7 f7 c8 f8 b0 b1 b2 b3
      generalize World.setCell _ _ _ = W at *
      simp [results, Tryd.results12, go_sem, q0, q1, q2, q3, q4, q5, q6, q7, q8, lfW0]
    by_cases h2 : 10 ≤ a
    rotate_left
    · skip
      have HR := Lib.hid (show tmR (z) (x, y, a, b) = (lf0, 6) by unfold tmR; rw [hB, h1]; simp [h2])
      have d2 : decide (a < 10) = true := by simp; omega
      rw [HR.out]
      go_enter Tryd.func12, Tryd.ntmps12
      go_wp2_with fail
      refine (one_lea _ _ z _ HZ.out).mono ?_
      rintro e w1 ⟨rfl, g1⟩
      have HG := Lib.hid (bseq HA.out g1)
      have HS1 := Lib.hid (HS.out.below g1)
      have HV1 := Lib.hid (HV.out.below g1)
      clear g1
      rw [hB]
      have hz := blk_lt HS1.out.lf
      have a6 := (cell_of_arr HS1.out.lf (j := 6) rfl).1
      have a7 := (cell_of_arr HS1.out.lf (j := 7) rfl).1
      go_wp2_with fail
      refine (box_spec (w.heap.size + 1) 0 (x, y, a, b) z.wd z.ln _ HS1.out.box HWL.out.1 HWL.out.2).mono ?_
      rintro e w2 ⟨rfl, g2⟩
      have HG2 := Lib.hid (bseq HG.out g2)
      have HS2 := Lib.hid (HS1.out.below g2)
      have HV2 := Lib.hid (HV1.out.below g2)
      rw [h1]
      clear g2 hz a6 a7
      obtain ⟨hz1, b0, b1, b2, b3⟩ := HS2.out.box
      obtain ⟨hzl, c0, f0, c1, f1, c2, f2, c3, f3, c4, f4, c5, f5, c6, f6, c7, f7, c8, f8⟩ := cells9_of HS2.out.rs
      go_wp2
      have hq := (st9 (x0 := .string ⟨#[]⟩) (x1 := .string ⟨#[]⟩) (x2 := .int .i64 0) (x3 := .string ⟨#[]⟩) (x4 := .int .i64 0) (x5 := .int .i64 0) (x6 := .int .i64 0) (x7 := .int .i64 0) (x8 := .slice none 0 0) HS2.out.rs)
      obtain ⟨_, q0, _, q1, _, q2, _, q3, _, q4, _, q5, _, q6, _, q7, _, q8, _⟩ := cells9_of hq
      refine bodyPost_ret (v := .tuple #[lfW lf0 (.slice none 0 0), .int .i64 6]) ?_ rfl ⟨_, rfl, OwnBx.nil _ _, bel9 HG2.out (by omega)⟩
      clear hq c0 f0 c1 f1 c2 f2 c3 f3 c4 f4 c5 f5 c6 f6 c7 f7 c8 f8 b0 b1 b2 b3
      generalize World.setCell _ _ _ = W at *
      simp [results, Tryd.results12, go_sem, q0, q1, q2, q3, q4, q5, q6, q7, q8, lfW0]
    by_cases h3 : 10 ≤ b
    rotate_left
    · skip
      have HR := Lib.hid (show tmR (z) (x, y, a, b) = (lf0, 6) by unfold tmR; rw [hB, h1]; simp [h2, h3])
      have d2 : decide (a < 10) = false := by simp; omega
      have d3 : decide (b < 10) = true := by simp; omega
      rw [HR.out]
      go_enter Tryd.func12, Tryd.ntmps12
      go_wp2_with fail
      refine (one_lea _ _ z _ HZ.out).mono ?_
      rintro e w1 ⟨rfl, g1⟩
      have HG := Lib.hid (bseq HA.out g1)
      have HS1 := Lib.hid (HS.out.below g1)
      have HV1 := Lib.hid (HV.out.below g1)
      clear g1
      rw [hB]
      have hz := blk_lt HS1.out.lf
      have a6 := (cell_of_arr HS1.out.lf (j := 6) rfl).1
      have a7 := (cell_of_arr HS1.out.lf (j := 7) rfl).1
      go_wp2_with fail
      refine (box_spec (w.heap.size + 1) 0 (x, y, a, b) z.wd z.ln _ HS1.out.box HWL.out.1 HWL.out.2).mono ?_
      rintro e w2 ⟨rfl, g2⟩
      have HG2 := Lib.hid (bseq HG.out g2)
      have HS2 := Lib.hid (HS1.out.below g2)
      have HV2 := Lib.hid (HV1.out.below g2)
      rw [h1]
      clear g2 hz a6 a7
      obtain ⟨hz1, b0, b1, b2, b3⟩ := HS2.out.box
      obtain ⟨hzl, c0, f0, c1, f1, c2, f2, c3, f3, c4, f4, c5, f5, c6, f6, c7, f7, c8, f8⟩ := cells9_of HS2.out.rs
      go_wp2
      have hq := (st9 (x0 := .string ⟨#[]⟩) (x1 := .string ⟨#[]⟩) (x2 := .int .i64 0) (x3 := .string ⟨#[]⟩) (x4 := .int .i64 0) (x5 := .int .i64 0) (x6 := .int .i64 0) (x7 := .int .i64 0) (x8 := .slice none 0 0) HS2.out.rs)
      obtain ⟨_, q0, _, q1, _, q2, _, q3, _, q4, _, q5, _, q6, _, q7, _, q8, _⟩ := cells9_of hq
      refine bodyPost_ret (v := .tuple #[lfW lf0 (.slice none 0 0), .int .i64 6]) ?_ rfl ⟨_, rfl, OwnBx.nil _ _, bel9 HG2.out (by omega)⟩
      clear hq c0 f0 c1 f1 c2 f2 c3 f3 c4 f4 c5 f5 c6 f6 c7 f7 c8 f8 b0 b1 b2 b3
      generalize World.setCell _ _ _ = W at *
      simp [results, Tryd.results12, go_sem, q0, q1, q2, q3, q4, q5, q6, q7, q8, lfW0]
    have d2 : decide (a < 10) = false := by simp; omega
    have d3 : decide (b < 10) = false := by simp; omega
    have HR := Lib.hid (show tmR (z) (x, y, a, b) = (tmZ z (x, y, a, b), 0) by unfold tmR; rw [hB, h1]; simp [h2, h3])
    rw [HR.out]
    go_enter Tryd.func12, Tryd.ntmps12
    go_wp2_with fail
    refine (one_lea _ _ z _ HZ.out).mono ?_
    rintro e w1 ⟨rfl, g1⟩
    have HG := Lib.hid (bseq HA.out g1)
    have HS1 := Lib.hid (HS.out.below g1)
    have HV1 := Lib.hid (HV.out.below g1)
    clear g1
    rw [hB]
    have hz := blk_lt HS1.out.lf
    have a6 := (cell_of_arr HS1.out.lf (j := 6) rfl).1
    have a7 := (cell_of_arr HS1.out.lf (j := 7) rfl).1
    go_wp2_with fail
    refine (box_spec (w.heap.size + 1) 0 (x, y, a, b) z.wd z.ln _ HS1.out.box HWL.out.1 HWL.out.2).mono ?_
    rintro e w2 ⟨rfl, g2⟩
    have HG2 := Lib.hid (bseq HG.out g2)
    have HS2 := Lib.hid (HS1.out.below g2)
    have HV2 := Lib.hid (HV1.out.below g2)
    rw [h1]
    clear g2 hz a6 a7
    obtain ⟨hz1, b0, b1, b2, b3⟩ := HS2.out.box
    have HB := Lib.hid (show (0 ≤ x ∧ x ≤ 20000) ∧ (0 ≤ y ∧ y ≤ 20000) ∧ (1 ≤ a ∧ x + a ≤ 20000) ∧ (1 ≤ b ∧ y + b ≤ 20000) by
      have := boxW_iff.1 h1
      have := HWL.out
      simp only at *
      omega)
    have HYS := Lib.hid (fun k (hk : k < z.df.length) h => tmD_yes (z := z) (b := (x, y, a, b)) hk h)
    have HNO := Lib.hid (fun k (hk : k < z.df.length) h => tmD_no (z := z) (b := (x, y, a, b)) hk h)
    have HTL := Lib.hid (tmD_len z (x, y, a, b))
    have HT0 := Lib.hid (show tmD z (x, y, a, b) 0 = [] by simp [tmD])
    have HTZ := Lib.hid (show tmZ z (x, y, a, b) = { z with wd := a, ln := b, df := tmD z (x, y, a, b) z.df.length } from rfl)
    obtain ⟨hzl, c0, f0, c1, f1, c2, f2, c3, f3, c4, f4, c5, f5, c6, f6, c7, f7, c8, f8⟩ := cells9_of HS2.out.lf
    have HQW := Lib.hid ((Below.heap_alloc (w2.alloc (.cells #[.string z.id, .string z.fl, .int .i64 z.nu, .string z.ve.1, .int .i64 z.ve.2.1, .int .i64 z.ve.2.2, .int .i64 a, .int .i64 b, .slice (some ⟨w2.heap.size + 1, 0, none⟩) 0 0] 33)) (.cells #[] 37) w2.heap.size (by simp)).trans (World.alloc_heap_new w2 (.cells #[.string z.id, .string z.fl, .int .i64 z.nu, .string z.ve.1, .int .i64 z.ve.2.1, .int .i64 z.ve.2.2, .int .i64 a, .int .i64 b, .slice (some ⟨w2.heap.size + 1, 0, none⟩) 0 0] 33)))
    have o1 := World.ownsRow_made (w2.alloc (.cells #[.string z.id, .string z.fl, .int .i64 z.nu, .string z.ve.1, .int .i64 z.ve.2.1, .int .i64 z.ve.2.2, .int .i64 a, .int .i64 b, .slice (some ⟨w2.heap.size + 1, 0, none⟩) 0 0] 33)) (e := 37) (base := w2.heap.size + 1) (size := 4) #[] 0 (by simp) (by unfold maxLen; omega) rfl
    rw [show (w2.alloc (.cells #[.string z.id, .string z.fl, .int .i64 z.nu, .string z.ve.1, .int .i64 z.ve.2.1, .int .i64 z.ve.2.2, .int .i64 a, .int .i64 b, .slice (some ⟨w2.heap.size + 1, 0, none⟩) 0 0] 33)).heap.size = w2.heap.size + 1 by simp] at o1
    have HO := Lib.hid (show OwnBx _ (w2.heap.size + 1) (.slice (some ⟨w2.heap.size + 1, 0, none⟩) 0 0) (tmD z (x, y, a, b) 0) by rw [HT0.out]; exact o1)
    have HBW := Lib.hid (two_allocs (w := w2) (.cells #[.string z.id, .string z.fl, .int .i64 z.nu, .string z.ve.1, .int .i64 z.ve.2.1, .int .i64 z.ve.2.2, .int .i64 a, .int .i64 b, .slice (some ⟨w2.heap.size + 1, 0, none⟩) 0 0] 33) (.cells #[] 37))
    clear o1
    go_wp2
    clear c0 f0 c1 f1 c2 f2 c3 f3 c4 f4 c5 f5 c6 f6 c7 f7 c8 f8 b0 b1 b2 b3 hz1 hzl d2 d3
    generalize (w2.alloc (.cells #[.string z.id, .string z.fl, .int .i64 z.nu, .string z.ve.1, .int .i64 z.ve.2.1, .int .i64 z.ve.2.2, .int .i64 a, .int .i64 b, .slice (some ⟨w2.heap.size + 1, 0, none⟩) 0 0] 33)).alloc (.cells #[] 37) = W at *
    obtain ⟨q, hq⟩ : ∃ q, w2.heap.size = q := ⟨_, rfl⟩
    have HQ := Lib.hid hq
    rw [hq] at HQW HO ⊢
    clear hq
    go_loopw [7, 9, 10, 11, 12] (fun iv u9 u10 u11 u12 wr => ∃ k : Nat, k ≤ n ∧ iv = .int .i64 k ∧ Hid (∃ g cp, wr.heap[q]? = some (.cells #[.string z.id, .string z.fl, .int .i64 z.nu, .string z.ve.1, .int .i64 z.ve.2.1, .int .i64 z.ve.2.2, .int .i64 a, .int .i64 b, .slice (some ⟨g, 0, none⟩) (tmD z (x, y, a, b) k).length cp] 33 (0, 0)) ∧ OwnBx wr (q + 1) (.slice (some ⟨g, 0, none⟩) (tmD z (x, y, a, b) k).length cp) (tmD z (x, y, a, b) k)) ∧ Hid (Below w2.heap.size w2 wr)) (fun i _ _ _ _ _ => n - (intOf i).toNat)
    case atStart => exact ⟨0, by omega, rfl, Lib.hid ⟨q + 1, 0, by rw [HT0.out]; exact HQW.out, by have h := HO.out; rw [HT0.out] at h ⊢; exact h⟩, HBW⟩
    case round =>
      obtain ⟨k, hk, rfl, ho, hb⟩ := hrel
      obtain ⟨g, cp, hqr, hown⟩ := ho.out
      have HS3 := Lib.hid (HS2.out.below hb.out)
      obtain ⟨hzl, c0, f0, c1, f1, c2, f2, c3, f3, c4, f4, c5, f5, c6, f6, c7, f7, c8, f8⟩ := cells9_of HS3.out.lf
      by_cases hlt : k < n
      · obtain ⟨bb, rfl, hbx⟩ := (HV2.out.below hb.out).2.resolve_left (by omega)
        have hkz : k < z.df.length := by have := HNZ.out; omega
        obtain ⟨hbw, v0, v1, v2, v3⟩ := hbx k hlt
        have HY := Lib.hid (HYS.out k hkz)
        have HN := Lib.hid (HNO.out k hkz)
        have hbk := boxW_iff.1 (HDF.out k hkz)
        have HSD := Lib.hid (bxS_of (HDF.out k hkz) HWL.out.1.2 HWL.out.2.2)
        obtain ⟨d, hdd⟩ : ∃ d, z.df.getD k bx0 = d := ⟨_, rfl⟩
        rw [hdd] at v0 v1 v2 v3 HY HN hbk HSD
        clear hbx hdd
        obtain ⟨x', y', a', b'⟩ := d
        simp only at v0 v1 v2 v3 hbk
        have HBK := Lib.hid (show (0 ≤ x' ∧ x' ≤ 20000) ∧ (0 ≤ y' ∧ y' ≤ 20000) ∧ (1 ≤ a' ∧ x' + a' ≤ 20000) ∧ (1 ≤ b' ∧ y' + b' ≤ 20000) by have := HWL.out; omega)
        have HSB := Lib.hid (show bxS (x, y, a, b) by have := HB.out; unfold bxS; simp only; omega)
        have hA1 := one_alloc (w := wr) (.cells #[.int .i64 x', .int .i64 y', .int .i64 a', .int .i64 b'] 37)
        have HA1 := Lib.hid hA1
        have HD1 := Lib.hid (BxAt.ofBox wr x' y' a' b' 37)
        have HS4 := Lib.hid (HS3.out.below hA1)
        have HQ4 := Lib.hid ((hA1.block _ (blk_lt hqr)).trans hqr)
        have HO4 := Lib.hid (OwnBx.below hown hA1)
        have HB4 := Lib.hid (hb.out.trans (hA1.mono hb.out.size))
        clear hA1 hbk hqr hown
        cases hm : metB (x', y', a', b') (x, y, a, b) with
        | false =>
          go_wp2_with fail
          refine (bxm_spec wr.heap.size 0 (w.heap.size + 1) 0 _ _ _ HD1.out HS4.out.box HSD.out HSB.out).mono ?_
          rintro e w3 ⟨rfl, g3⟩
          have HB5 := Lib.hid (HB4.out.trans (g3.mono HB4.out.size))
          have HI := Lib.hid (show ∃ g cp, w3.heap[q]? = some (.cells #[.string z.id, .string z.fl, .int .i64 z.nu, .string z.ve.1, .int .i64 z.ve.2.1, .int .i64 z.ve.2.2, .int .i64 a, .int .i64 b, .slice (some ⟨g, 0, none⟩) (tmD z (x, y, a, b) (k + 1)).length cp] 33 (0, 0)) ∧ OwnBx w3 (q + 1) (.slice (some ⟨g, 0, none⟩) (tmD z (x, y, a, b) (k + 1)).length cp) (tmD z (x, y, a, b) (k + 1)) from ⟨g, cp, by rw [HN.out hm]; exact (g3.block _ (blk_lt HQ4.out)).trans HQ4.out, by rw [HN.out hm]; exact OwnBx.below HO4.out g3⟩)
          clear g3 c0 f0 c1 f1 c2 f2 c3 f3 c4 f4 c5 f5 c6 f6 c7 f7 c8 f8 v0 v1 v2 v3 hbw
          rw [hm]
          go_wp2
          go_roundw
          case rel => exact ⟨k + 1, by omega, by go_num, HI, HB5⟩
          case measure => simp [intOf]; omega
        | true =>
          go_wp2_with fail
          refine (bxm_spec wr.heap.size 0 (w.heap.size + 1) 0 _ _ _ HD1.out HS4.out.box HSD.out HSB.out).mono ?_
          rintro e w3 ⟨rfl, g3⟩
          have HB5 := Lib.hid (HB4.out.trans (g3.mono HB4.out.size))
          have HQ5 := Lib.hid ((g3.block _ (blk_lt HQ4.out)).trans HQ4.out)
          have HO5 := Lib.hid (OwnBx.below HO4.out g3)
          obtain ⟨hdw, e0, e1, e2, e3⟩ := HD1.out.below g3
          obtain ⟨hbw2, g0, g1', g2', g3'⟩ := (HS4.out.below g3).box
          clear g3 c0 f0 c1 f1 c2 f2 c3 f3 c4 f4 c5 f5 c6 f6 c7 f7 c8 f8 v0 v1 v2 v3 hbw
          rw [hm]
          simp only [Nat.zero_add] at e1 e2 e3 g1' g2' g3'
          have hBK := HBK.out
          have hBB := HB.out
          have m1 := grt_bd (a := x') (b := x) (l := 0) (h := 20000) (by omega) (by omega)
          have m2 := grt_bd (a := y') (b := y) (l := 0) (h := 20000) (by omega) (by omega)
          have m3 := les_bd (a := x' + a') (b := x + a) (l := 0) (h := 20000) (by omega) (by omega)
          have m4 := les_bd (a := y' + b') (b := y + b) (l := 0) (h := 20000) (by omega) (by omega)
          have i1 : IntKind.i64.wrap (x' + a') = x' + a' := IntWalk.i64_in _ (by omega)
          have i2 : IntKind.i64.wrap (x + a) = x + a := IntWalk.i64_in _ (by omega)
          have i3 : IntKind.i64.wrap (y' + b') = y' + b' := IntWalk.i64_in _ (by omega)
          have i4 : IntKind.i64.wrap (y + b) = y + b := IntWalk.i64_in _ (by omega)
          have i5 : IntKind.i64.wrap (lesI (x' + a') (x + a) - grtI x' x) = lesI (x' + a') (x + a) - grtI x' x := IntWalk.i64_in _ (by omega)
          have i6 : IntKind.i64.wrap (lesI (y' + b') (y + b) - grtI y' y) = lesI (y' + b') (y + b) - grtI y' y := IntWalk.i64_in _ (by omega)
          have i7 : IntKind.i64.wrap (grtI x' x - x) = grtI x' x - x := IntWalk.i64_in _ (by omega)
          have i8 : IntKind.i64.wrap (grtI y' y - y) = grtI y' y - y := IntWalk.i64_in _ (by omega)
          clear hBK hBB m1 m2 m3 m4
          obtain ⟨hqw, _, _, _, _, _, _, _, _, _, _, _, _, _, _, _, _, r8, _⟩ := cells9_of HQ5.out
          have hown := HO5.out
          unfold OwnBx at hown
          have hle : q + 1 ≤ w3.heap.size := hqw
          have hlen := HTL.out k
          go_wp2_with fail
          refine (max_ven _ _ _).mono ?_
          rintro e w4 ⟨rfl, rfl⟩
          go_wp2_with fail
          refine (max_ven _ _ _).mono ?_
          rintro e w4 ⟨rfl, rfl⟩
          go_wp2_with fail
          refine (min_ven _ _ _).mono ?_
          rintro e w4 ⟨rfl, rfl⟩
          go_wp2_with fail
          refine (min_ven _ _ _).mono ?_
          rintro e w4 ⟨rfl, rfl⟩
          go_wp2_with (at_builtin; refine wpList_appN rfl _ _ 31 rfl (q + 1) 37 i0 _ 4 32 Tryd.underlying31 hi hz0 hz1' hz2' rfl (by omega) _ _ _ rfl hown _ rfl (by first | rfl | simp) rfl rfl (by omega) (by omega) hle ?_)
          intro v' w4 hown' hgrow
          obtain ⟨gg, cc, rfl⟩ : ∃ gg cc, v' = .slice (some ⟨gg, 0, none⟩) ((tmD z (x, y, a, b) k).length + 1) cc := by
            rcases hown' with ⟨_, ⟨_, h⟩ | ⟨g', c', _, h, _⟩⟩
            · omega
            · exact ⟨g', c', h⟩
          have HQ6 := own_other hown HQ5.out (Nat.lt_succ_self q) hgrow
          obtain ⟨hqw6, _, _, _, _, _, _, _, _, _, _, _, _, _, _, _, _, s8, t8⟩ := cells9_of HQ6
          have HQ7 := heap_setCell_same _ q 8 _ _ (.slice (some ⟨gg, 0, none⟩) ((tmD z (x, y, a, b) k).length + 1) cc) HQ6
          have HLN := Lib.hid (show (tmD z (x, y, a, b) (k + 1)).length = (tmD z (x, y, a, b) k).length + 1 by rw [HY.out hm]; simp)
          have HO7 := OwnBx.app (d := cutB (x', y', a', b') (x, y, a, b)) (L := tmD z (x, y, a, b) k) rfl hown'
          rw [← HY.out hm] at HO7
          have HO8 := keep_set HO7 ⟨q, 8, none⟩ (.slice (some ⟨gg, 0, none⟩) ((tmD z (x, y, a, b) k).length + 1) cc) (Nat.lt_succ_self q)
          have HI := Lib.hid (show ∃ g cp, (w4.setCell ⟨q, 8, none⟩ (.slice (some ⟨gg, 0, none⟩) ((tmD z (x, y, a, b) k).length + 1) cc)).heap[q]? = some (.cells #[.string z.id, .string z.fl, .int .i64 z.nu, .string z.ve.1, .int .i64 z.ve.2.1, .int .i64 z.ve.2.2, .int .i64 a, .int .i64 b, .slice (some ⟨g, 0, none⟩) (tmD z (x, y, a, b) (k + 1)).length cp] 33 (0, 0)) ∧ OwnBx (w4.setCell ⟨q, 8, none⟩ (.slice (some ⟨gg, 0, none⟩) ((tmD z (x, y, a, b) k).length + 1) cc)) (q + 1) (.slice (some ⟨g, 0, none⟩) (tmD z (x, y, a, b) (k + 1)).length cp) (tmD z (x, y, a, b) (k + 1)) from ⟨gg, cc, by rw [HLN.out]; exact HQ7.trans (by simp), by rw [HLN.out]; exact HO8⟩)
          have HB6 := Lib.hid ((below_app HB5.out (by rw [HQ.out]; exact Nat.le_succ q) HB5.out.size hown hgrow).setCell (p := ⟨q, 8, none⟩) (by rw [HQ.out]; exact Nat.le_refl q) (.slice (some ⟨gg, 0, none⟩) ((tmD z (x, y, a, b) k).length + 1) cc))
          clear hown' hgrow HQ6 HQ7 HO7 HO8 hown
          go_wp2
          go_roundw
          case rel => exact ⟨k + 1, by omega, by go_num, HI, HB6⟩
          case measure => simp [intOf]; omega
      · obtain rfl : k = n := by omega
        obtain ⟨hqw, k0, l0, k1, l1, k2, l2, k3, l3, k4, l4, k5, l5, k6, l6, k7, l7, k8, l8⟩ := cells9_of hqr
        have HF := Lib.hid (own_lower (keep9 (x0 := .string z.id) (x1 := .string z.fl) (x2 := .int .i64 z.nu) (x3 := .string z.ve.1) (x4 := .int .i64 z.ve.2.1) (x5 := .int .i64 z.ve.2.2) (x6 := .int .i64 a) (x7 := .int .i64 b) (x8 := .slice (some ⟨g, 0, none⟩) (tmD z (x, y, a, b) k).length cp) (p := w.heap.size + 1 + 1) hown (by have := blk_lt HS2.out.rs; have := HQ.out; omega)) (show w.heap.size ≤ q + 1 by have := HG2.out.size; have := HQ.out; omega))
        have HDZ := Lib.hid (show (tmZ z (x, y, a, b)).df = tmD z (x, y, a, b) k by rw [HTZ.out, HNZ.out])
        have HBF := Lib.hid (bseq HG2.out hb.out)
        obtain ⟨_, s0, f0', s1, f1', s2, f2', s3, f3', s4, f4', s5, f5', s6, f6', s7, f7', s8, f8'⟩ := cells9_of HS3.out.rs
        have hrl := blk_lt HS3.out.rs
        have hqs := (st9 (x0 := .string z.id) (x1 := .string z.fl) (x2 := .int .i64 z.nu) (x3 := .string z.ve.1) (x4 := .int .i64 z.ve.2.1) (x5 := .int .i64 z.ve.2.2) (x6 := .int .i64 a) (x7 := .int .i64 b) (x8 := .slice (some ⟨g, 0, none⟩) (tmD z (x, y, a, b) k).length cp) HS3.out.rs)
        obtain ⟨_, q0, _, q1, _, q2, _, q3, _, q4, _, q5, _, q6, _, q7, _, q8, _⟩ := cells9_of hqs
        have HB9 := Lib.hid (bel9 (x0 := .string z.id) (x1 := .string z.fl) (x2 := .int .i64 z.nu) (x3 := .string z.ve.1) (x4 := .int .i64 z.ve.2.1) (x5 := .int .i64 z.ve.2.2) (x6 := .int .i64 a) (x7 := .int .i64 b) (x8 := .slice (some ⟨g, 0, none⟩) (tmD z (x, y, a, b) k).length cp) (p := w.heap.size + 1 + 1) HBF.out (by omega))
        go_wp2
        refine bodyPost_ret (v := .tuple #[lfW (tmZ z (x, y, a, b)) (.slice (some ⟨g, 0, none⟩) (tmD z (x, y, a, b) k).length cp), .int .i64 0]) ?_ rfl ⟨_, rfl, ?_, HB9.out⟩
        · clear hqs s0 f0' s1 f1' s2 f2' s3 f3' s4 f4' s5 f5' s6 f6' s7 f7' s8 f8'
          generalize World.setCell _ _ _ = W at *
          simp [results, Tryd.results12, go_sem, q0, q1, q2, q3, q4, q5, q6, q7, q8, lfW, tmZ]
        · rw [HDZ.out]; exact HF.out
end Go.Proofs.YtcjpplijbdfgbaaDoor
