/- Several texts in one: Lea17, Lea18, Lea19, Lea20. -/
import Derived.Test.YtcjpplijbdfgbaaDoorLea16
import Derived.Test.YtcjpplijbdfgbaaDoorSeq3
import Derived.Test.YtcjpplijbdfgbaaDoorPlan
import Derived.Test.YtcjpplijbdfgbaaDoorK18
import Derived.BigRegion
import Derived.StillTailTactics
namespace Go.Proofs.YtcjpplijbdfgbaaDoor
open Seq2 Go.ChangeShapes Go.WideShapes Go.ChangeAt Go.RowKit
set_option linter.unusedVariables false
set_option linter.unusedSimpArgs false

theorem st4 {w : World} {p : Nat} {c0 c1 c2 c3 x0 x1 x2 x3 : Value} {t : TypeId} (h : w.heap[p]? = some (.cells #[c0, c1, c2, c3] t (0, 0))) : ((((w.setCell ⟨p, 0, none⟩ x0).setCell ⟨p, 1, none⟩ x1).setCell ⟨p, 2, none⟩ x2).setCell ⟨p, 3, none⟩ x3).heap[p]? = some (.cells #[x0, x1, x2, x3] t (0, 0)) := by
  have h0 := heap_setCell_same _ p 0 _ _ x0 h
  have h1 := heap_setCell_same _ p 1 _ _ x1 h0
  have h2 := heap_setCell_same _ p 2 _ _ x2 h1
  have h3 := heap_setCell_same _ p 3 _ _ x3 h2
  rw [h3]
  simp
theorem bel4 {B : Nat} {w0 w : World} {p : Nat} {x0 x1 x2 x3 : Value} (hb : Below B w0 w) (hp : B ≤ p) : Below B w0 ((((w.setCell ⟨p, 0, none⟩ x0).setCell ⟨p, 1, none⟩ x1).setCell ⟨p, 2, none⟩ x2).setCell ⟨p, 3, none⟩ x3) := (Below.setCell (Below.setCell (Below.setCell (Below.setCell hb (p := ⟨p, 0, none⟩) hp x0) (p := ⟨p, 1, none⟩) hp x1) (p := ⟨p, 2, none⟩) hp x2) (p := ⟨p, 3, none⟩) hp x3)
set_option maxRecDepth 100000 in
set_option maxHeartbeats 2000000 in
theorem bb64 (l o r h : Int) (w : World) (h1 : -9223372036854775808 ≤ r - l ∧ r - l ≤ 9223372036854775807) (h2 : -9223372036854775808 ≤ h - o ∧ h - o ≤ 9223372036854775807) :
    Calls Tryd.prog 123 #[.int .i64 l, .int .i64 o, .int .i64 r, .int .i64 h] w fun e w' => e = .returned (.agg #[.int .i64 l, .int .i64 o, .int .i64 (r - l), .int .i64 (h - o)]) ∧ Below w.heap.size w w' := by
  have i1 : IntKind.i64.wrap (r - l) = r - l := IntWalk.i64_in _ h1
  have i2 : IntKind.i64.wrap (h - o) = h - o := IntWalk.i64_in _ h2
  clear h1 h2
  go_enter Tryd.func123, Tryd.ntmps123
  go_wp2
  refine bodyPost_ret (v := .agg #[.int .i64 l, .int .i64 o, .int .i64 (r - l), .int .i64 (h - o)]) (by simp [results, Tryd.results123, go_sem]) rfl ⟨rfl, ?_⟩
  exact one_alloc _
set_option maxRecDepth 100000 in
set_option maxHeartbeats 2000000 in
theorem bshift_impl (x y a b dx dy : Int) (w : World) (h1 : -9223372036854775808 ≤ x + dx ∧ x + dx ≤ 9223372036854775807) (h2 : -9223372036854775808 ≤ y + dy ∧ y + dy ≤ 9223372036854775807) :
    Calls Tryd.prog 93 #[.agg #[.int .i64 x, .int .i64 y, .int .i64 a, .int .i64 b], .int .i64 dx, .int .i64 dy] w fun e w' => e = .returned (.agg #[.int .i64 (x + dx), .int .i64 (y + dy), .int .i64 a, .int .i64 b]) ∧ Below w.heap.size w w' := by
  have i1 : IntKind.i64.wrap (x + dx) = x + dx := IntWalk.i64_in _ h1
  have i2 : IntKind.i64.wrap (y + dy) = y + dy := IntWalk.i64_in _ h2
  clear h1 h2
  go_enter Tryd.func93, Tryd.ntmps93
  go_wp2
  refine bodyPost_ret (v := .agg #[.int .i64 (x + dx), .int .i64 (y + dy), .int .i64 a, .int .i64 b]) (by simp [results, Tryd.results93, go_sem]) rfl ⟨rfl, ?_⟩
  exact two_allocs _ _
theorem grt_max (a b : Int) : grtI a b = max a b := by unfold grtI; omega
theorem les_min (a b : Int) : lesI a b = min a b := by unfold lesI; omega
set_option maxRecDepth 100000 in
set_option maxHeartbeats 4000000 in
theorem common_impl (x' y' a' b' x y a b : Int) (w : World) (hd : (0 ≤ x' ∧ x' ≤ 20000) ∧ (0 ≤ y' ∧ y' ≤ 20000) ∧ (1 ≤ a' ∧ x' + a' ≤ 20000) ∧ (1 ≤ b' ∧ y' + b' ≤ 20000)) (hb : (0 ≤ x ∧ x ≤ 20000) ∧ (0 ≤ y ∧ y ≤ 20000) ∧ (1 ≤ a ∧ x + a ≤ 20000) ∧ (1 ≤ b ∧ y + b ≤ 20000)) :
    Calls Tryd.prog 92 #[.agg #[.int .i64 x', .int .i64 y', .int .i64 a', .int .i64 b'], .agg #[.int .i64 x, .int .i64 y, .int .i64 a, .int .i64 b]] w fun e w' => e = .returned (.agg #[.int .i64 (grtI x' x), .int .i64 (grtI y' y), .int .i64 (lesI (x' + a') (x + a) - grtI x' x), .int .i64 (lesI (y' + b') (y + b) - grtI y' y)]) ∧ Below w.heap.size w w' := by
  have m1 := grt_bd (a := x') (b := x) (l := 0) (h := 20000) (by omega) (by omega)
  have m2 := grt_bd (a := y') (b := y) (l := 0) (h := 20000) (by omega) (by omega)
  have m3 := les_bd (a := x' + a') (b := x + a) (l := 0) (h := 20000) (by omega) (by omega)
  have m4 := les_bd (a := y' + b') (b := y + b) (l := 0) (h := 20000) (by omega) (by omega)
  simp only [grt_max, les_min] at *
  have R1 := Lib.hid (fun w => right_impl x' y' a' b' w (by omega))
  have R2 := Lib.hid (fun w => right_impl x y a b w (by omega))
  have R3 := Lib.hid (fun w => high_impl x' y' a' b' w (by omega))
  have R4 := Lib.hid (fun w => high_impl x y a b w (by omega))
  have R5 := Lib.hid (fun w => bb64 (max x' x) (max y' y) (min (x' + a') (x + a)) (min (y' + b') (y + b)) w (by omega) (by omega))
  clear hd hb m1 m2 m3 m4
  have hx0 := (Below.heap_alloc (w.alloc (.cells #[.int .i64 x', .int .i64 y', .int .i64 a', .int .i64 b'] 37)) (.cells #[.int .i64 x, .int .i64 y, .int .i64 a, .int .i64 b] 37) w.heap.size (by simp)).trans (World.alloc_heap_new w (.cells #[.int .i64 x', .int .i64 y', .int .i64 a', .int .i64 b'] 37))
  have hx1 := World.alloc_heap_new (w.alloc (.cells #[.int .i64 x', .int .i64 y', .int .i64 a', .int .i64 b'] 37)) (.cells #[.int .i64 x, .int .i64 y, .int .i64 a, .int .i64 b] 37)
  rw [show (w.alloc (.cells #[.int .i64 x', .int .i64 y', .int .i64 a', .int .i64 b'] 37)).heap.size = w.heap.size + 1 by simp] at hx1
  have HA2 := Lib.hid (two_allocs (w := w) (.cells #[.int .i64 x', .int .i64 y', .int .i64 a', .int .i64 b'] 37) (.cells #[.int .i64 x, .int .i64 y, .int .i64 a, .int .i64 b] 37))
  have hsz : ((w.alloc (.cells #[.int .i64 x', .int .i64 y', .int .i64 a', .int .i64 b'] 37)).alloc (.cells #[.int .i64 x, .int .i64 y, .int .i64 a, .int .i64 b] 37)).heap.size = w.heap.size + 1 + 1 := by simp
  go_enter Tryd.func92, Tryd.ntmps92
  go_wp2
  generalize (w.alloc (.cells #[.int .i64 x', .int .i64 y', .int .i64 a', .int .i64 b'] 37)).alloc (.cells #[.int .i64 x, .int .i64 y, .int .i64 a, .int .i64 b] 37) = W at *
  have hz0 := blk_lt hx0
  have hz1 := blk_lt hx1
  obtain ⟨a0, _, a1, _, a2, _, a3, _⟩ := cells4_of hx0
  obtain ⟨b0, _, b1, _, b2, _, b3, _⟩ := cells4_of hx1
  have HZ2 := Lib.hid (World.alloc_heap_new W (.cells #[.int .i64 0, .int .i64 0, .int .i64 0, .int .i64 0] 37))
  rw [hsz] at HZ2
  have HSZ := Lib.hid hsz
  refine Seq3.wp_region W [0, 1, 2, 3, 4, 5, 6, 7, 8, 9, 10, 12, 15, 17] [(11, []), (13, [14]), (16, []), (18, [19]), (20, []), (21, [])] (by kernel_rfl) (by kernel_rfl) rfl (one_alloc _) (fun w1 hh hb1 => ?_)
  repeat (first | (refine Seq2.fl_row (by decide) ?_) | (refine Seq2.fl_skip (by kernel_rfl) (by kernel_rfl) ?_ ?_; (focus (go_simp; (first | done | (simp [undef]; done)))); (try simp only [Act.put, List.setIfInBounds_toArray, List.set_cons_zero, List.set_cons_succ])) | (refine Seq2.fl_val (by kernel_rfl) (by kernel_rfl) ?_ ?_; (focus (go_simp; done)); apply Exists.intro; refine ⟨fun w2 hw2 => ?_, ?_⟩; (focus (obtain ⟨hc, hf⟩ := bcell hw2; clear hw2; go_simp; (first | done | with_reducible rfl | (with_reducible exact eql2 _ _ _) | (with_reducible exact neq2 _ _ _)))); (try simp only [Act.put, List.setIfInBounds_toArray, List.set_cons_zero, List.set_cons_succ])))
  refine Seq2.fl_nil ?_
  refine Seq3.c3_one (by kernel_rfl) rfl ?_
  gi_wp2_with fail
  refine ⟨trivial, rfl, (callsIn_wide.2 (R1.out _)).mono ?_⟩
  rintro e w2 ⟨rfl, g2⟩
  have HB2 := Lib.hid (hb1.trans (g2.mono hb1.size))
  clear g2 hh
  gi_wp2
  refine ⟨bseq (one_alloc _) HB2.out, ?_⟩
  refine Seq3.none ?_
  refine Seq3.c3_one (by kernel_rfl) rfl ?_
  gi_wp2_with fail
  refine ⟨trivial, rfl, (callsIn_wide.2 (R2.out _)).mono ?_⟩
  rintro e w3 ⟨rfl, g3⟩
  have HB3 := Lib.hid (HB2.out.trans (g3.mono HB2.out.size))
  clear g3
  gi_wp2
  refine ⟨bseq (one_alloc _) HB3.out, ?_⟩
  refine Seq3.mid 14 ?_
  simp only [List.drop_succ_cons, List.drop_zero]
  repeat (first | (refine Seq2.fl_row (by decide) ?_) | (refine Seq2.fl_skip (by kernel_rfl) (by kernel_rfl) ?_ ?_; (focus (go_simp; (first | done | (simp [undef]; done)))); (try simp only [Act.put, List.setIfInBounds_toArray, List.set_cons_zero, List.set_cons_succ])) | (refine Seq2.fl_val (by kernel_rfl) (by kernel_rfl) ?_ ?_; (focus (go_simp; done)); apply Exists.intro; refine ⟨fun w2 hw2 => ?_, ?_⟩; (focus (obtain ⟨hc, hf⟩ := bcell hw2; clear hw2; go_simp; (first | done | with_reducible rfl | (with_reducible exact eql2 _ _ _) | (with_reducible exact neq2 _ _ _)))); (try simp only [Act.put, List.setIfInBounds_toArray, List.set_cons_zero, List.set_cons_succ])))
  refine Seq2.fl_nil ?_
  refine Seq3.c3_one (by kernel_rfl) rfl ?_
  gi_wp2_with fail
  refine ⟨trivial, rfl, (callsIn_wide.2 (R3.out _)).mono ?_⟩
  rintro e w4 ⟨rfl, g4⟩
  have HB4 := Lib.hid (HB3.out.trans (g4.mono HB3.out.size))
  clear g4
  gi_wp2
  refine ⟨bseq (one_alloc _) HB4.out, ?_⟩
  refine Seq3.none ?_
  refine Seq3.c3_one (by kernel_rfl) rfl ?_
  gi_wp2_with fail
  refine ⟨trivial, rfl, (callsIn_wide.2 (R4.out _)).mono ?_⟩
  rintro e w5 ⟨rfl, g5⟩
  have HB5 := Lib.hid (HB4.out.trans (g5.mono HB4.out.size))
  clear g5
  gi_wp2
  refine ⟨bseq (one_alloc _) HB5.out, ?_⟩
  refine Seq3.mid 19 ?_
  simp only [List.drop_succ_cons, List.drop_zero]
  repeat (first | (refine Seq2.fl_row (by decide) ?_) | (refine Seq2.fl_skip (by kernel_rfl) (by kernel_rfl) ?_ ?_; (focus (go_simp; (first | done | (simp [undef]; done)))); (try simp only [Act.put, List.setIfInBounds_toArray, List.set_cons_zero, List.set_cons_succ])) | (refine Seq2.fl_val (by kernel_rfl) (by kernel_rfl) ?_ ?_; (focus (go_simp; done)); apply Exists.intro; refine ⟨fun w2 hw2 => ?_, ?_⟩; (focus (obtain ⟨hc, hf⟩ := bcell hw2; clear hw2; go_simp; (first | done | with_reducible rfl | (with_reducible exact eql2 _ _ _) | (with_reducible exact neq2 _ _ _)))); (try simp only [Act.put, List.setIfInBounds_toArray, List.set_cons_zero, List.set_cons_succ])))
  refine Seq2.fl_nil ?_
  refine Seq3.c3_one (by kernel_rfl) rfl ?_
  gi_wp2_with fail
  refine ⟨trivial, rfl, (callsIn_wide.2 (R5.out _)).mono ?_⟩
  rintro e w6 ⟨rfl, g6⟩
  have HB6 := Lib.hid (HB5.out.trans (g6.mono HB5.out.size))
  clear g6
  gi_wp2
  refine ⟨bseq (one_alloc _) HB6.out, ?_⟩
  refine Seq3.none ?_
  have hq6 := (HB6.out.block _ (blk_lt HZ2.out)).trans HZ2.out
  obtain ⟨c0, f0, c1, f1, c2, f2, c3, f3⟩ := cells4_of hq6
  have hzl := blk_lt hq6
  have HB7 := Lib.hid (bel4 (x0 := .int .i64 (max x' x)) (x1 := .int .i64 (max y' y)) (x2 := .int .i64 (min (x' + a') (x + a) - max x' x)) (x3 := .int .i64 (min (y' + b') (y + b) - max y' y)) (p := w.heap.size + 1 + 1) (bseq (one_alloc _) HB6.out) (by rw [HSZ.out]; exact Nat.le_refl _))
  have hq7 := st4 (x0 := .int .i64 (max x' x)) (x1 := .int .i64 (max y' y)) (x2 := .int .i64 (min (x' + a') (x + a) - max x' x)) (x3 := .int .i64 (min (y' + b') (y + b) - max y' y)) hq6
  obtain ⟨q0, _, q1, _, q2, _, q3, _⟩ := cells4_of hq7
  have HBW := Lib.hid (bel4 (x0 := .int .i64 (max x' x)) (x1 := .int .i64 (max y' y)) (x2 := .int .i64 (min (x' + a') (x + a) - max x' x)) (x3 := .int .i64 (min (y' + b') (y + b) - max y' y)) (p := w.heap.size + 1 + 1) (bseq HA2.out (bseq (one_alloc _) HB6.out)) (by omega))
  refine Seq3.c3_one (by kernel_rfl) rfl ?_
  gi_wp2
  refine ⟨HB7.out, ?_⟩
  refine Seq3.none ?_
  refine Seq3.c3_nil (by kernel_rfl) ?_
  go_wp2
  refine bodyPost_ret (v := .agg #[.int .i64 (max x' x), .int .i64 (max y' y), .int .i64 (min (x' + a') (x + a) - max x' x), .int .i64 (min (y' + b') (y + b) - max y' y)]) ?_ rfl ⟨rfl, HBW.out⟩
  clear hq7 hq6 c0 f0 c1 f1 c2 f2 c3 f3
  generalize World.setCell _ _ _ = W' at *
  simp [results, Tryd.results92, go_sem, q0, q1, q2, q3]
end Go.Proofs.YtcjpplijbdfgbaaDoor
namespace Go.Proofs.YtcjpplijbdfgbaaDoor
open Seq2 Go.ChangeShapes Go.WideShapes Go.ChangeAt Go.RowKit
set_option linter.unusedVariables false
set_option linter.unusedSimpArgs false

def tmO (E : ErrA) (z : Lf) (b : Bx) : Option Addr := if boxW b z.wd z.ln then (if 10 ≤ b.2.2.1 then (if 10 ≤ b.2.2.2 then none else some E.s) else some E.s) else some E.r
set_option maxRecDepth 100000 in
set_option maxHeartbeats 16000000 in
theorem tmd_impl (E : ErrA) (z : Lf) (ao : Option Addr) (n c : Nat) (x y a b : Int) (w : World) (hB : lfB z = true) (hd : BxV w ao n z.df) (hE : Errs w E) :
    Calls Tryd.prog 56 #[.agg #[.string z.id, .string z.fl, .int .i64 z.nu, .string z.ve.1, .int .i64 z.ve.2.1, .int .i64 z.ve.2.2, .int .i64 z.wd, .int .i64 z.ln, .slice ao n c], .agg #[.int .i64 x, .int .i64 y, .int .i64 a, .int .i64 b]] w fun e w' =>
      (∀ s, tmO E z (x, y, a, b) = some s → e = .returned (.tuple #[lfW lf0 (.slice none 0 0), esV s])) ∧
      (tmO E z (x, y, a, b) = none → ∃ (ao2 : Option Addr) (nn cc : Nat), e = .returned (.tuple #[lfW (tmZ z (x, y, a, b)) (.slice ao2 nn cc), .nilIface]) ∧ OwnBx w' w.heap.size (.slice ao2 nn cc) (tmZ z (x, y, a, b)).df) ∧ Below w.heap.size w w' := by
  obtain ⟨hW, hL, h6, hdf⟩ := lfB_dfz hB
  have hA := three_allocs (w := w) (.cells #[.string z.id, .string z.fl, .int .i64 z.nu, .string z.ve.1, .int .i64 z.ve.2.1, .int .i64 z.ve.2.2, .int .i64 z.wd, .int .i64 z.ln, .slice ao n c] 33) (.cells #[.int .i64 x, .int .i64 y, .int .i64 a, .int .i64 b] 37) (.cells #[.string ⟨#[]⟩, .string ⟨#[]⟩, .int .i64 0, .string ⟨#[]⟩, .int .i64 0, .int .i64 0, .int .i64 0, .int .i64 0, .slice none 0 0] 33)
  have HA := Lib.hid hA
  have HA2 := Lib.hid (two_allocs (w := w) (.cells #[.string z.id, .string z.fl, .int .i64 z.nu, .string z.ve.1, .int .i64 z.ve.2.1, .int .i64 z.ve.2.2, .int .i64 z.wd, .int .i64 z.ln, .slice ao n c] 33) (.cells #[.int .i64 x, .int .i64 y, .int .i64 a, .int .i64 b] 37))
  have HS := Lib.hid (tm_start w z ao n c x y a b)
  have HV := Lib.hid (hd.below hA)
  have HE := Lib.hid (hE.below hA)
  have HNZ := Lib.hid hd.1
  have HWL := Lib.hid (show (0 ≤ z.wd ∧ z.wd ≤ 20000) ∧ (0 ≤ z.ln ∧ z.ln ≤ 20000) by omega)
  have HDF := Lib.hid hdf
  have hn6 : n ≤ 6 := by have := HNZ.out; omega
  obtain ⟨i0, hi, hz0, hz1', hz2'⟩ := info_parts infoBx
  have HLW := Lib.hid hE.S.lt
  clear hW hL h6 hdf hd hE hA hB
  by_cases h1 : boxW (x, y, a, b) z.wd z.ln = true
  rotate_left
  · simp only [Bool.not_eq_true] at h1
    have HR := Lib.hid (show tmO E z (x, y, a, b) = some E.r by unfold tmO; rw [h1]; rfl)
    rw [HR.out]
    go_enter Tryd.func56, Tryd.ntmps56
    go_wp2_with fail
    refine (within_impl x y a b z.wd z.ln _ HWL.out.1 HWL.out.2).mono ?_
    rintro e w1 ⟨rfl, g1⟩
    have HG := Lib.hid (bseq HA.out g1)
    have HS1 := Lib.hid (HS.out.below g1)
    have HE1 := Lib.hid (HE.out.below g1)
    clear g1
    rw [h1]
    have e0 := HE1.out.R.cell
    have l0 := HE1.out.R.lt
    obtain ⟨hzl, c0, f0, c1, f1, c2, f2, c3, f3, c4, f4, c5, f5, c6, f6, c7, f7, c8, f8⟩ := cells9_of HS1.out.rs
    go_wp2
    go_region
    go_wp2
    have hq := st9 (x0 := .string ⟨#[]⟩) (x1 := .string ⟨#[]⟩) (x2 := .int .i64 0) (x3 := .string ⟨#[]⟩) (x4 := .int .i64 0) (x5 := .int .i64 0) (x6 := .int .i64 0) (x7 := .int .i64 0) (x8 := .slice none 0 0) HS1.out.rs
    have hbl := bel9 (x0 := .string ⟨#[]⟩) (x1 := .string ⟨#[]⟩) (x2 := .int .i64 0) (x3 := .string ⟨#[]⟩) (x4 := .int .i64 0) (x5 := .int .i64 0) (x6 := .int .i64 0) (x7 := .int .i64 0) (x8 := .slice none 0 0) (p := w.heap.size + 1 + 1) HG.out (by omega)
    obtain ⟨_, q0, _, q1, _, q2, _, q3, _, q4, _, q5, _, q6, _, q7, _, q8, _⟩ := cells9_of hq
    refine bodyPost_ret (v := .tuple #[lfW lf0 (.slice none 0 0), esV E.r]) ?_ rfl ⟨fun s hs => by cases hs; rfl, fun h => (by cases h), ?_⟩
    · clear hq hbl c0 f0 c1 f1 c2 f2 c3 f3 c4 f4 c5 f5 c6 f6 c7 f7 c8 f8
      generalize World.setCell _ _ _ = W at *
      simp [results, Tryd.results56, go_sem, q0, q1, q2, q3, q4, q5, q6, q7, q8, lfW0, esV]
    · exact bel_drew hbl
  · by_cases hmin : min a b < 10
    · have HR := Lib.hid (show tmO E z (x, y, a, b) = some E.s by
        unfold tmO; rw [h1, if_pos rfl]; simp only
        by_cases h10 : 10 ≤ a
        · rw [if_pos h10, if_neg (by omega)]
        · rw [if_neg h10])
      have hd : decide (min a b < 10) = true := by simpa using hmin
      rw [HR.out]
      go_enter Tryd.func56, Tryd.ntmps56
      go_wp2_with fail
      refine (within_impl x y a b z.wd z.ln _ HWL.out.1 HWL.out.2).mono ?_
      rintro e w1 ⟨rfl, g1⟩
      have HG := Lib.hid (bseq HA.out g1)
      have HS1 := Lib.hid (HS.out.below g1)
      have HE1 := Lib.hid (HE.out.below g1)
      clear g1
      rw [h1]
      have lw := HLW.out
      have e0 := HE1.out.S.cell
      have l0 := HE1.out.S.lt
      obtain ⟨hz1, b0, b1, b2, b3⟩ := HS1.out.box
      obtain ⟨hzl, c0, f0, c1, f1, c2, f2, c3, f3, c4, f4, c5, f5, c6, f6, c7, f7, c8, f8⟩ := cells9_of HS1.out.rs
      simp only [Nat.zero_add] at b1 b2 b3
      go_wp2
      go_region
      go_wp2
      have hq := st9 (x0 := .string ⟨#[]⟩) (x1 := .string ⟨#[]⟩) (x2 := .int .i64 0) (x3 := .string ⟨#[]⟩) (x4 := .int .i64 0) (x5 := .int .i64 0) (x6 := .int .i64 0) (x7 := .int .i64 0) (x8 := .slice none 0 0) HS1.out.rs
      have hbl := bel9 (x0 := .string ⟨#[]⟩) (x1 := .string ⟨#[]⟩) (x2 := .int .i64 0) (x3 := .string ⟨#[]⟩) (x4 := .int .i64 0) (x5 := .int .i64 0) (x6 := .int .i64 0) (x7 := .int .i64 0) (x8 := .slice none 0 0) (p := w.heap.size + 1 + 1) HG.out (by omega)
      obtain ⟨_, q0, _, q1, _, q2, _, q3, _, q4, _, q5, _, q6, _, q7, _, q8, _⟩ := cells9_of hq
      refine bodyPost_ret (v := .tuple #[lfW lf0 (.slice none 0 0), esV E.s]) ?_ rfl ⟨fun s hs => by cases hs; rfl, fun h => (by cases h), ?_⟩
      · clear hq hbl c0 f0 c1 f1 c2 f2 c3 f3 c4 f4 c5 f5 c6 f6 c7 f7 c8 f8
        generalize World.setCell _ _ _ = W at *
        simp [results, Tryd.results56, go_sem, q0, q1, q2, q3, q4, q5, q6, q7, q8, lfW0, esV]
      · exact bel_drew hbl
    · have hab : 10 ≤ a ∧ 10 ≤ b := by omega
      have HR := Lib.hid (show tmO E z (x, y, a, b) = none by unfold tmO; rw [h1, if_pos rfl]; simp [hab.1, hab.2])
      have hd : decide (min a b < 10) = false := by simpa using hmin
      have HB := Lib.hid (show (0 ≤ x ∧ x ≤ 20000) ∧ (0 ≤ y ∧ y ≤ 20000) ∧ (1 ≤ a ∧ x + a ≤ 20000) ∧ (1 ≤ b ∧ y + b ≤ 20000) by
        have := boxW_iff.1 h1
        have := HWL.out
        simp only at *
        omega)
      have HSB := Lib.hid (show bxS (x, y, a, b) by have := HB.out; unfold bxS; simp only; omega)
      have HYS := Lib.hid (fun k (hk : k < z.df.length) h => tmD_yes (z := z) (b := (x, y, a, b)) hk h)
      have HNO := Lib.hid (fun k (hk : k < z.df.length) h => tmD_no (z := z) (b := (x, y, a, b)) hk h)
      have HTL := Lib.hid (tmD_len z (x, y, a, b))
      have HT0 := Lib.hid (show tmD z (x, y, a, b) 0 = [] by simp [tmD])
      have HTZ := Lib.hid (show tmZ z (x, y, a, b) = { z with wd := a, ln := b, df := tmD z (x, y, a, b) z.df.length } from rfl)
      rw [HR.out]
      clear hab hmin
      go_enter Tryd.func56, Tryd.ntmps56
      go_wp2_with fail
      refine (within_impl x y a b z.wd z.ln _ HWL.out.1 HWL.out.2).mono ?_
      rintro e w1 ⟨rfl, g1⟩
      have HG := Lib.hid (bseq HA.out g1)
      have HS1 := Lib.hid (HS.out.below g1)
      have HV1 := Lib.hid (HV.out.below g1)
      clear g1
      rw [h1]
      obtain ⟨hz1, b0, b1, b2, b3⟩ := HS1.out.box
      simp only [Nat.zero_add] at b1 b2 b3
      have hzl := blk_lt HS1.out.lf
      have a8 := (cell_of_arr HS1.out.lf (j := 8) rfl).1
      go_wp2
      clear b0 b1 b2 b3 a8 hz1 hzl hd
      go_loopw [29, 6] (fun iv dv wr => ∃ (k : Nat) (ao2 : Option Addr) (nn cc : Nat), k ≤ n ∧ iv = .int .i64 k ∧ dv = .slice ao2 nn cc ∧ Hid (OwnBx wr w1.heap.size (.slice ao2 nn cc) (tmD z (x, y, a, b) k)) ∧ Hid (Below w1.heap.size w1 wr)) (fun i _ _ => n - (intOf i).toNat)
      case atStart => exact ⟨0, none, 0, 0, by omega, rfl, rfl, Lib.hid (by rw [HT0.out]; exact OwnBx.nil _ _), Lib.hid (Below.refl _ _)⟩
      case round =>
        obtain ⟨k, ao2, nn, cc, hk, rfl, rfl, ho, hb⟩ := hrel
        have HS3 := Lib.hid (HS1.out.below hb.out)
        by_cases hlt : k < n
        · obtain ⟨bb, rfl, hbx⟩ := (HV1.out.below hb.out).2.resolve_left (by omega)
          have hkz : k < z.df.length := by have := HNZ.out; omega
          obtain ⟨hbw, v0, v1, v2, v3⟩ := hbx k hlt
          have HY := Lib.hid (HYS.out k hkz)
          have HN := Lib.hid (HNO.out k hkz)
          have hbk := boxW_iff.1 (HDF.out k hkz)
          have HSD := Lib.hid (bxS_of (HDF.out k hkz) HWL.out.1.2 HWL.out.2.2)
          obtain ⟨d, hdd⟩ : ∃ d, z.df.getD k bx0 = d := ⟨_, rfl⟩
          rw [hdd] at v0 v1 v2 v3 HY HN hbk HSD
          clear hbx hdd
          obtain ⟨x', y', a', b'⟩ := d
          simp only at v0 v1 v2 v3 hbk
          have HBK := Lib.hid (show (0 ≤ x' ∧ x' ≤ 20000) ∧ (0 ≤ y' ∧ y' ≤ 20000) ∧ (1 ≤ a' ∧ x' + a' ≤ 20000) ∧ (1 ≤ b' ∧ y' + b' ≤ 20000) by have := HWL.out; omega)
          have hA1 := one_alloc (w := wr) (.cells #[.int .i64 x', .int .i64 y', .int .i64 a', .int .i64 b'] 37)
          have HD1 := Lib.hid (BxAt.ofBox wr x' y' a' b' 37)
          have HS4 := Lib.hid (HS3.out.below hA1)
          have HO4 := Lib.hid (OwnBx.below ho.out hA1)
          have HB4 := Lib.hid (hb.out.trans (hA1.mono hb.out.size))
          obtain ⟨hz1, b0, b1, b2, b3⟩ := HS3.out.box
          simp only [Nat.zero_add] at b1 b2 b3
          clear hA1 hbk
          cases hm : metB (x', y', a', b') (x, y, a, b) with
          | false =>
            go_wp2_with fail
            refine (meets_impl x' y' a' b' x y a b _ HSD.out HSB.out).mono ?_
            rintro e w3 ⟨rfl, g3⟩
            have HB5 := Lib.hid (HB4.out.trans (g3.mono HB4.out.size))
            have HO5 := Lib.hid (show OwnBx w3 w1.heap.size (.slice ao2 nn cc) (tmD z (x, y, a, b) (k + 1)) by rw [HN.out hm]; exact OwnBx.below HO4.out g3)
            clear g3 v0 v1 v2 v3 hbw b0 b1 b2 b3 hz1
            rw [hm]
            go_wp2
            go_roundw
            case rel => exact ⟨k + 1, ao2, nn, cc, by omega, by go_num, rfl, HO5, HB5⟩
            case measure => simp [intOf]; omega
          | true =>
            go_wp2_with fail
            refine (meets_impl x' y' a' b' x y a b _ HSD.out HSB.out).mono ?_
            rintro e w3 ⟨rfl, g3⟩
            have HB5 := Lib.hid (HB4.out.trans (g3.mono HB4.out.size))
            have HO5 := Lib.hid (OwnBx.below HO4.out g3)
            obtain ⟨hdw, e0, e1, e2, e3⟩ := HD1.out.below g3
            obtain ⟨hbw2, g0, g1', g2', g3'⟩ := (HS4.out.below g3).box
            simp only [Nat.zero_add] at e1 e2 e3 g1' g2' g3'
            have hBK := HBK.out
            have hBB := HB.out
            have m1 := grt_bd (a := x') (b := x) (l := 0) (h := 20000) (by omega) (by omega)
            have m2 := grt_bd (a := y') (b := y) (l := 0) (h := 20000) (by omega) (by omega)
            have HCM := Lib.hid (fun w => common_impl x' y' a' b' x y a b w hBK hBB)
            have HSH := Lib.hid (fun w => bshift_impl (grtI x' x) (grtI y' y) (lesI (x' + a') (x + a) - grtI x' x) (lesI (y' + b') (y + b) - grtI y' y) (-x) (-y) w (by omega) (by omega))
            have HCU := Lib.hid (show (grtI x' x + -x, grtI y' y + -y, lesI (x' + a') (x + a) - grtI x' x, lesI (y' + b') (y + b) - grtI y' y) = cutB (x', y', a', b') (x, y, a, b) by unfold cutB; simp only [Int.sub_eq_add_neg])
            have i9 : IntKind.i64.wrap (-x) = -x := IntWalk.i64_in _ (by omega)
            have i8 : IntKind.i64.wrap (-y) = -y := IntWalk.i64_in _ (by omega)
            clear g3 v0 v1 v2 v3 hbw b0 b1 b2 b3 hz1 hBK hBB m1 m2
            rw [hm]
            go_wp2
            refine wp_region_plan_tail 2 [12] [.val 0 [] (.slice ao2 nn cc), .val 1 [] (.agg #[.int .i64 x', .int .i64 y', .int .i64 a', .int .i64 b']), .val 2 [] (.agg #[.int .i64 x, .int .i64 y, .int .i64 a, .int .i64 b]), .val 3 [] (.agg #[.int .i64 (grtI x' x), .int .i64 (grtI y' y), .int .i64 (lesI (x' + a') (x + a) - grtI x' x), .int .i64 (lesI (y' + b') (y + b) - grtI y' y)]), .val 4 [] (.pointer (some ⟨w.heap.size + 1, 0, none⟩)), .val 5 [] (.int .i64 (x)), .val 6 [] (.int .i64 (-x)), .val 7 [] (.pointer (some ⟨w.heap.size + 1, 1, none⟩)), .val 8 [] (.int .i64 (y)), .val 9 [] (.int .i64 (-y)), .val 10 [] (.agg #[.int .i64 (grtI x' x + -x), .int .i64 (grtI y' y + -y), .int .i64 (lesI (x' + a') (x + a) - grtI x' x), .int .i64 (lesI (y' + b') (y + b) - grtI y' y)]), .make 11 (.cells #[.int .i64 (grtI x' x + -x), .int .i64 (grtI y' y + -y), .int .i64 (lesI (x' + a') (x + a) - grtI x' x), .int .i64 (lesI (y' + b') (y + b) - grtI y' y)] 37) (fun p => .slice (some ⟨p, 0, none⟩) 1 1)] (by kernel_rfl) (by kernel_rfl) rfl ?_
            refine plan_val (by kernel_rfl) (by kernel_rfl) (by kernel_rfl) (by go_simp) (fun w1 hw1 => ?_) ?_
            · obtain ⟨hc, hf⟩ := bcell hw1; clear hw1; go_simp; (try with_reducible rfl)
            (try simp only [Act.put, List.setIfInBounds_toArray, List.set_cons_zero, List.set_cons_succ])
            refine plan_val (by kernel_rfl) (by kernel_rfl) (by kernel_rfl) (by go_simp) (fun w1 hw1 => ?_) ?_
            · obtain ⟨hc, hf⟩ := bcell hw1; clear hw1; go_simp; (try with_reducible rfl)
            (try simp only [Act.put, List.setIfInBounds_toArray, List.set_cons_zero, List.set_cons_succ])
            refine plan_val (by kernel_rfl) (by kernel_rfl) (by kernel_rfl) (by go_simp) (fun w1 hw1 => ?_) ?_
            · obtain ⟨hc, hf⟩ := bcell hw1; clear hw1; go_simp; (try with_reducible rfl)
            (try simp only [Act.put, List.setIfInBounds_toArray, List.set_cons_zero, List.set_cons_succ])
            refine plan_call [] 92 #[.agg #[.int .i64 x', .int .i64 y', .int .i64 a', .int .i64 b'], .agg #[.int .i64 x, .int .i64 y, .int .i64 a, .int .i64 b]] (by kernel_rfl) (by kernel_rfl) (by kernel_rfl) (by kernel_rfl) (by go_simp) (fun w1 hw1 => ?_) (fun w1 hC => ?_) ?_
            · clear hw1; go_simp; (try with_reducible rfl)
            · exact (HCM.out w1).mono (fun e w2 h => h)
            (try simp only [Act.put, List.setIfInBounds_toArray, List.set_cons_zero, List.set_cons_succ])
            refine plan_val (by kernel_rfl) (by kernel_rfl) (by kernel_rfl) (by go_simp) (fun w1 hw1 => ?_) ?_
            · obtain ⟨hc, hf⟩ := bcell hw1; clear hw1; go_simp; (try with_reducible rfl)
            (try simp only [Act.put, List.setIfInBounds_toArray, List.set_cons_zero, List.set_cons_succ])
            refine plan_val (by kernel_rfl) (by kernel_rfl) (by kernel_rfl) (by go_simp) (fun w1 hw1 => ?_) ?_
            · obtain ⟨hc, hf⟩ := bcell hw1; clear hw1; go_simp; (try with_reducible rfl)
            (try simp only [Act.put, List.setIfInBounds_toArray, List.set_cons_zero, List.set_cons_succ])
            refine plan_val (by kernel_rfl) (by kernel_rfl) (by kernel_rfl) (by go_simp) (fun w1 hw1 => ?_) ?_
            · obtain ⟨hc, hf⟩ := bcell hw1; clear hw1; go_simp; (try with_reducible rfl)
            (try simp only [Act.put, List.setIfInBounds_toArray, List.set_cons_zero, List.set_cons_succ])
            refine plan_val (by kernel_rfl) (by kernel_rfl) (by kernel_rfl) (by go_simp) (fun w1 hw1 => ?_) ?_
            · obtain ⟨hc, hf⟩ := bcell hw1; clear hw1; go_simp; (try with_reducible rfl)
            (try simp only [Act.put, List.setIfInBounds_toArray, List.set_cons_zero, List.set_cons_succ])
            refine plan_val (by kernel_rfl) (by kernel_rfl) (by kernel_rfl) (by go_simp) (fun w1 hw1 => ?_) ?_
            · obtain ⟨hc, hf⟩ := bcell hw1; clear hw1; go_simp; (try with_reducible rfl)
            (try simp only [Act.put, List.setIfInBounds_toArray, List.set_cons_zero, List.set_cons_succ])
            refine plan_val (by kernel_rfl) (by kernel_rfl) (by kernel_rfl) (by go_simp) (fun w1 hw1 => ?_) ?_
            · obtain ⟨hc, hf⟩ := bcell hw1; clear hw1; go_simp; (try with_reducible rfl)
            (try simp only [Act.put, List.setIfInBounds_toArray, List.set_cons_zero, List.set_cons_succ])
            refine plan_call [] 93 #[.agg #[.int .i64 (grtI x' x), .int .i64 (grtI y' y), .int .i64 (lesI (x' + a') (x + a) - grtI x' x), .int .i64 (lesI (y' + b') (y + b) - grtI y' y)], .int .i64 (-x), .int .i64 (-y)] (by kernel_rfl) (by kernel_rfl) (by kernel_rfl) (by kernel_rfl) (by go_simp) (fun w1 hw1 => ?_) (fun w1 hC => ?_) ?_
            · clear hw1; go_simp; (try with_reducible rfl)
            · exact (HSH.out w1).mono (fun e w2 h => h)
            (try simp only [Act.put, List.setIfInBounds_toArray, List.set_cons_zero, List.set_cons_succ])
            refine plan_make (by kernel_rfl) (by kernel_rfl) (by go_simp) (fun w1 => ?_) (fun p11 hp11 => ?_)
            · go_simp; (try with_reducible rfl)
            (try simp only [Act.put, List.setIfInBounds_toArray, List.set_cons_zero, List.set_cons_succ])
            refine plan_tail_w (by kernel_rfl) (by kernel_rfl) rfl (fun w4 hC => ?_)
            have HBC := Lib.hid (HB5.out.trans (hC.1.mono HB5.out.size))
            have hown := OwnBx.below HO5.out hC.1
            unfold OwnBx at hown
            have hle := HBC.out.size
            have hlen := HTL.out k
            obtain ⟨_, hp1, hp2⟩ := hC.2 ⟨11, p11, _⟩ (Or.inl rfl)
            have HNW := Lib.hid (show ∀ j u, (oneBx (grtI x' x + -x, grtI y' y + -y, lesI (x' + a') (x + a) - grtI x' x, lesI (y' + b') (y + b) - grtI y' y))[j]? = some u → w4.cell? (Addr.add ⟨p11, 0, none⟩ j) = some u from fun j u hj => by
              have e : Addr.add ⟨p11, 0, none⟩ j = ⟨p11, j, none⟩ := by
                unfold Addr.add
                split
                · subst_vars; rfl
                · simp
              rw [e]
              match j, hj with
              | 0, hj => cases hj; exact (cell_of_arr hp2 (j := 0) rfl).1
              | 1, hj => cases hj; exact (cell_of_arr hp2 (j := 1) rfl).1
              | 2, hj => cases hj; exact (cell_of_arr hp2 (j := 2) rfl).1
              | 3, hj => cases hj; exact (cell_of_arr hp2 (j := 3) rfl).1)
            have HN1 := Lib.hid (show ∀ u ∈ oneBx (grtI x' x + -x, grtI y' y + -y, lesI (x' + a') (x + a) - grtI x' x, lesI (y' + b') (y + b) - grtI y' y), u.oneCell' = true from fun u hu => by
              simp only [oneBx, List.mem_cons, List.not_mem_nil, or_false] at hu
              rcases hu with rfl | rfl | rfl | rfl <;> rfl)
            clear hC e0 e1 e2 e3 g0 g1' g2' g3' hdw hbw2 i8 i9 hp1 hp2
            gi_wp2_with (refine wpListIn_append_own _ rfl _ _ 31 rfl w1.heap.size 37 i0 _ 4 32 Tryd.underlying31 hi hz0 hz1' hz2' rfl (by omega) _ _ _ rfl hown ⟨p11, 0, none⟩ 1 1 _ rfl rfl HNW.out HN1.out (by unfold maxLen; omega) (by omega) hle ?_)
            intro v' w5 hown' hgrow _
            obtain ⟨gg, c2, rfl⟩ : ∃ gg c2, v' = .slice (some ⟨gg, 0, none⟩) ((tmD z (x, y, a, b) k).length + 1) c2 := by
              rcases hown' with ⟨_, ⟨_, h⟩ | ⟨g', c', _, h, _⟩⟩
              · omega
              · exact ⟨g', c', h⟩
            have HO7 := OwnBx.app (d := (grtI x' x + -x, grtI y' y + -y, lesI (x' + a') (x + a) - grtI x' x, lesI (y' + b') (y + b) - grtI y' y)) (L := tmD z (x, y, a, b) k) rfl hown'
            rw [HCU.out, ← HY.out hm] at HO7
            have HO8 := Lib.hid HO7
            have HB6 := Lib.hid (HBC.out.grown hgrow hle (fun k hk => (World.ownsRow.lt hown k hk).1))
            clear hown' hgrow hown HO7
            gi_wp2
            go_wp2
            go_roundw
            case rel => exact ⟨k + 1, _, _, _, by omega, by go_num, rfl, HO8, HB6⟩
            case measure => simp [intOf]; omega
        · obtain rfl : k = n := by omega
          obtain ⟨hz1, b0, b1, b2, b3⟩ := HS3.out.box
          simp only [Nat.zero_add] at b1 b2 b3
          have hlf := HS3.out.lf
          have hrs := HS3.out.rs
          obtain ⟨hzl, c0, f0, c1, f1, c2, f2, c3, f3, c4, f4, c5, f5, c6, f6, c7, f7, c8, f8⟩ := cells9_of hlf
          have k1 := heap_setCell_same _ _ 6 _ _ (.int .i64 a) hlf
          have k2 := heap_setCell_same _ _ 7 _ _ (.int .i64 b) k1
          have k3 := heap_setCell_same _ _ 8 _ _ (.slice ao2 nn cc) k2
          have HLF := Lib.hid (show ((((wr.setCell ⟨w.heap.size, 6, none⟩ (.int .i64 a)).setCell ⟨w.heap.size, 7, none⟩ (.int .i64 b)).setCell ⟨w.heap.size, 8, none⟩ (.slice ao2 nn cc)).drew).heap[w.heap.size]? = some (.cells #[.string z.id, .string z.fl, .int .i64 z.nu, .string z.ve.1, .int .i64 z.ve.2.1, .int .i64 z.ve.2.2, .int .i64 a, .int .i64 b, .slice ao2 nn cc] 33 (0, 0)) from heap_drew (k3.trans (by simp)))
          have HRS := Lib.hid (show ((((wr.setCell ⟨w.heap.size, 6, none⟩ (.int .i64 a)).setCell ⟨w.heap.size, 7, none⟩ (.int .i64 b)).setCell ⟨w.heap.size, 8, none⟩ (.slice ao2 nn cc)).drew).heap[w.heap.size + 1 + 1]? = some (.cells #[.string ⟨#[]⟩, .string ⟨#[]⟩, .int .i64 0, .string ⟨#[]⟩, .int .i64 0, .int .i64 0, .int .i64 0, .int .i64 0, .slice none 0 0] 33 (0, 0)) from heap_drew ((Below.heap_setCell _ _ _ _ (by simp; omega)).trans ((Below.heap_setCell _ _ _ _ (by simp; omega)).trans ((Below.heap_setCell _ _ _ _ (by simp; omega)).trans hrs))))
          have HBT := Lib.hid (show Below w.heap.size w ((((wr.setCell ⟨w.heap.size, 6, none⟩ (.int .i64 a)).setCell ⟨w.heap.size, 7, none⟩ (.int .i64 b)).setCell ⟨w.heap.size, 8, none⟩ (.slice ao2 nn cc)).drew) from bel_drew ((((bseq HG.out hb.out).setCell (p := ⟨w.heap.size, 6, none⟩) (Nat.le_refl _) (.int .i64 a)).setCell (p := ⟨w.heap.size, 7, none⟩) (Nat.le_refl _) (.int .i64 b)).setCell (p := ⟨w.heap.size, 8, none⟩) (Nat.le_refl _) (.slice ao2 nn cc)))
          have hlt0 : w.heap.size < w1.heap.size := blk_lt HS1.out.lf
          have HOT := Lib.hid (show OwnBx ((((wr.setCell ⟨w.heap.size, 6, none⟩ (.int .i64 a)).setCell ⟨w.heap.size, 7, none⟩ (.int .i64 b)).setCell ⟨w.heap.size, 8, none⟩ (.slice ao2 nn cc)).drew) w1.heap.size (.slice ao2 nn cc) (tmD z (x, y, a, b) k) from own_drew (keep_set (keep_set (keep_set ho.out ⟨w.heap.size, 6, none⟩ (.int .i64 a) hlt0) ⟨w.heap.size, 7, none⟩ (.int .i64 b) hlt0) ⟨w.heap.size, 8, none⟩ (.slice ao2 nn cc) hlt0))
          have HLT2 := Lib.hid (blk_lt HS1.out.rs)
          clear k1 k2 k3 hlf hrs hlt0
          go_wp2
          go_region
          generalize ((((wr.setCell ⟨w.heap.size, 6, none⟩ (.int .i64 a)).setCell ⟨w.heap.size, 7, none⟩ (.int .i64 b)).setCell ⟨w.heap.size, 8, none⟩ (.slice ao2 nn cc)).drew) = W at *
          clear hzl c0 f0 c1 f1 c2 f2 c3 f3 c4 f4 c5 f5 c6 f6 c7 f7 c8 f8 hz1 b0 b1 b2 b3
          obtain ⟨hzl, c0, f0, c1, f1, c2, f2, c3, f3, c4, f4, c5, f5, c6, f6, c7, f7, c8, f8⟩ := cells9_of HLF.out
          obtain ⟨hrl, s0, t0, s1, t1, s2, t2, s3, t3, s4, t4, s5, t5, s6, t6, s7, t7, s8, t8⟩ := cells9_of HRS.out
          have hq := st9 (x0 := .string z.id) (x1 := .string z.fl) (x2 := .int .i64 z.nu) (x3 := .string z.ve.1) (x4 := .int .i64 z.ve.2.1) (x5 := .int .i64 z.ve.2.2) (x6 := .int .i64 a) (x7 := .int .i64 b) (x8 := .slice ao2 nn cc) HRS.out
          have HBL := Lib.hid (bel9 (x0 := .string z.id) (x1 := .string z.fl) (x2 := .int .i64 z.nu) (x3 := .string z.ve.1) (x4 := .int .i64 z.ve.2.1) (x5 := .int .i64 z.ve.2.2) (x6 := .int .i64 a) (x7 := .int .i64 b) (x8 := .slice ao2 nn cc) (p := w.heap.size + 1 + 1) HBT.out (by omega))
          have HOF := Lib.hid (own_lower (keep9 (x0 := .string z.id) (x1 := .string z.fl) (x2 := .int .i64 z.nu) (x3 := .string z.ve.1) (x4 := .int .i64 z.ve.2.1) (x5 := .int .i64 z.ve.2.2) (x6 := .int .i64 a) (x7 := .int .i64 b) (x8 := .slice ao2 nn cc) (p := w.heap.size + 1 + 1) HOT.out HLT2.out) HG.out.size)
          have HDZ := Lib.hid (show (tmZ z (x, y, a, b)).df = tmD z (x, y, a, b) k by rw [HTZ.out, HNZ.out])
          obtain ⟨_, q0, _, q1, _, q2, _, q3, _, q4, _, q5, _, q6, _, q7, _, q8, _⟩ := cells9_of hq
          go_wp2
          refine bodyPost_ret (v := .tuple #[lfW (tmZ z (x, y, a, b)) (.slice ao2 nn cc), .nilIface]) ?_ rfl ⟨fun s hs => (by cases hs), fun _ => ⟨ao2, nn, cc, rfl, ?_⟩, HBL.out⟩
          · clear hq c0 f0 c1 f1 c2 f2 c3 f3 c4 f4 c5 f5 c6 f6 c7 f7 c8 f8 s0 t0 s1 t1 s2 t2 s3 t3 s4 t4 s5 t5 s6 t6 s7 t7 s8 t8
            generalize World.setCell _ _ _ = W' at *
            simp [results, Tryd.results56, go_sem, q0, q1, q2, q3, q4, q5, q6, q7, q8, lfW, tmZ]
          · rw [HDZ.out]; exact HOF.out
end Go.Proofs.YtcjpplijbdfgbaaDoor
namespace Go.Proofs.YtcjpplijbdfgbaaDoor
open Seq2 Go.ChangeShapes Go.WideShapes Go.ChangeAt Go.RowKit
set_option linter.unusedVariables false
set_option linter.unusedSimpArgs false

theorem two_zero (w : World) : (((w.alloc (.cells #[.string ⟨#[]⟩, .string ⟨#[]⟩, .int .i64 0, .string ⟨#[]⟩, .int .i64 0, .int .i64 0, .int .i64 0, .int .i64 0, .slice none 0 0] 33)).alloc (.cells #[.string ⟨#[]⟩, .string ⟨#[]⟩, .int .i64 0, .string ⟨#[]⟩, .int .i64 0, .int .i64 0, .int .i64 0, .int .i64 0, .slice none 0 0] 33)).heap[w.heap.size]? = some (.cells #[.string ⟨#[]⟩, .string ⟨#[]⟩, .int .i64 0, .string ⟨#[]⟩, .int .i64 0, .int .i64 0, .int .i64 0, .int .i64 0, .slice none 0 0] 33 (0, 0))) ∧ (((w.alloc (.cells #[.string ⟨#[]⟩, .string ⟨#[]⟩, .int .i64 0, .string ⟨#[]⟩, .int .i64 0, .int .i64 0, .int .i64 0, .int .i64 0, .slice none 0 0] 33)).alloc (.cells #[.string ⟨#[]⟩, .string ⟨#[]⟩, .int .i64 0, .string ⟨#[]⟩, .int .i64 0, .int .i64 0, .int .i64 0, .int .i64 0, .slice none 0 0] 33)).heap[w.heap.size + 1]? = some (.cells #[.string ⟨#[]⟩, .string ⟨#[]⟩, .int .i64 0, .string ⟨#[]⟩, .int .i64 0, .int .i64 0, .int .i64 0, .int .i64 0, .slice none 0 0] 33 (0, 0))) := by
  have h1 := (Below.heap_alloc (w.alloc (.cells #[.string ⟨#[]⟩, .string ⟨#[]⟩, .int .i64 0, .string ⟨#[]⟩, .int .i64 0, .int .i64 0, .int .i64 0, .int .i64 0, .slice none 0 0] 33)) (.cells #[.string ⟨#[]⟩, .string ⟨#[]⟩, .int .i64 0, .string ⟨#[]⟩, .int .i64 0, .int .i64 0, .int .i64 0, .int .i64 0, .slice none 0 0] 33) w.heap.size (by simp)).trans (World.alloc_heap_new w (.cells #[.string ⟨#[]⟩, .string ⟨#[]⟩, .int .i64 0, .string ⟨#[]⟩, .int .i64 0, .int .i64 0, .int .i64 0, .int .i64 0, .slice none 0 0] 33))
  have h2 := World.alloc_heap_new (w.alloc (.cells #[.string ⟨#[]⟩, .string ⟨#[]⟩, .int .i64 0, .string ⟨#[]⟩, .int .i64 0, .int .i64 0, .int .i64 0, .int .i64 0, .slice none 0 0] 33)) (.cells #[.string ⟨#[]⟩, .string ⟨#[]⟩, .int .i64 0, .string ⟨#[]⟩, .int .i64 0, .int .i64 0, .int .i64 0, .int .i64 0, .slice none 0 0] 33)
  rw [show (w.alloc (.cells #[.string ⟨#[]⟩, .string ⟨#[]⟩, .int .i64 0, .string ⟨#[]⟩, .int .i64 0, .int .i64 0, .int .i64 0, .int .i64 0, .slice none 0 0] 33)).heap.size = w.heap.size + 1 by simp] at h2
  exact ⟨h1, h2⟩
set_option maxRecDepth 100000 in
set_option maxHeartbeats 4000000 in
theorem wcl_no (fv : Value) (w : World) : Calls Tryd.prog 53 #[.bool false, fv] w fun e w' => e = .returned (.tuple #[lfW lf0 (.slice none 0 0), .int .i64 1]) ∧ Below w.heap.size w w' := by
  have HA := Lib.hid (two_allocs (w := w) (.cells #[.string ⟨#[]⟩, .string ⟨#[]⟩, .int .i64 0, .string ⟨#[]⟩, .int .i64 0, .int .i64 0, .int .i64 0, .int .i64 0, .slice none 0 0] 33) (.cells #[.string ⟨#[]⟩, .string ⟨#[]⟩, .int .i64 0, .string ⟨#[]⟩, .int .i64 0, .int .i64 0, .int .i64 0, .int .i64 0, .slice none 0 0] 33))
  go_enter Tryd.func53, Tryd.ntmps53
  go_wp2
  refine bodyPost_ret (v := .tuple #[lfW lf0 (.slice none 0 0), .int .i64 1]) ?_ rfl ⟨rfl, HA.out⟩
  simp [results, Tryd.results53, go_sem, lfW0]
set_option maxRecDepth 100000 in
set_option maxHeartbeats 4000000 in
theorem wcl_ok (k0 k1 : Value) (z : Lf) (w : World) (h : ∀ w', Below w.heap.size w w' → Calls Tryd.prog 55 #[k0, k1] w' fun e w'' => ∃ (ao : Option Addr) (nn cc : Nat), e = .returned (.tuple #[lfW z (.slice ao nn cc), .nilIface]) ∧ OwnBx w'' w'.heap.size (.slice ao nn cc) z.df ∧ Below w'.heap.size w' w'') :
    Calls Tryd.prog 53 #[.bool true, .func (.func 55) #[] #[k0, k1]] w fun e w' => ∃ (ao : Option Addr) (nn cc : Nat), e = .returned (.tuple #[lfW z (.slice ao nn cc), .int .i64 0]) ∧ OwnBx w' w.heap.size (.slice ao nn cc) z.df ∧ Below w.heap.size w w' := by
  have HA := Lib.hid (two_allocs (w := w) (.cells #[.string ⟨#[]⟩, .string ⟨#[]⟩, .int .i64 0, .string ⟨#[]⟩, .int .i64 0, .int .i64 0, .int .i64 0, .int .i64 0, .slice none 0 0] 33) (.cells #[.string ⟨#[]⟩, .string ⟨#[]⟩, .int .i64 0, .string ⟨#[]⟩, .int .i64 0, .int .i64 0, .int .i64 0, .int .i64 0, .slice none 0 0] 33))
  have HH := Lib.hid (h _ HA.out)
  obtain ⟨h0, h1⟩ := two_zero w
  have H0 := Lib.hid h0
  unfold lfW at HH ⊢
  clear h h0 h1
  go_enter Tryd.func53, Tryd.ntmps53
  go_wp2_with fail
  refine (HH.out).mono ?_
  rintro e w1 ⟨ao, nn, cc, rfl, ho, g1⟩
  have HB1 := Lib.hid (bseq HA.out g1)
  have HB2 := Lib.hid (HB1.out.alloc HB1.out.size (.cells #[.string z.id, .string z.fl, .int .i64 z.nu, .string z.ve.1, .int .i64 z.ve.2.1, .int .i64 z.ve.2.2, .int .i64 z.wd, .int .i64 z.ln, .slice ao nn cc] 33))
  have HO2 := Lib.hid (OwnBx.below ho (one_alloc (.cells #[.string z.id, .string z.fl, .int .i64 z.nu, .string z.ve.1, .int .i64 z.ve.2.1, .int .i64 z.ve.2.2, .int .i64 z.wd, .int .i64 z.ln, .slice ao nn cc] 33)))
  have hk0 := (Below.heap_alloc w1 (.cells #[.string z.id, .string z.fl, .int .i64 z.nu, .string z.ve.1, .int .i64 z.ve.2.1, .int .i64 z.ve.2.2, .int .i64 z.wd, .int .i64 z.ln, .slice ao nn cc] 33) w.heap.size (blk_lt ((g1.block _ (blk_lt H0.out)).trans H0.out))).trans ((g1.block _ (blk_lt H0.out)).trans H0.out)
  have hk7 := World.alloc_heap_new w1 (.cells #[.string z.id, .string z.fl, .int .i64 z.nu, .string z.ve.1, .int .i64 z.ve.2.1, .int .i64 z.ve.2.2, .int .i64 z.wd, .int .i64 z.ln, .slice ao nn cc] 33)
  obtain ⟨hzl, c0, f0, c1, f1, c2, f2, c3, f3, c4, f4, c5, f5, c6, f6, c7, f7, c8, f8⟩ := cells9_of hk0
  obtain ⟨hzk, s0, t0, s1, t1, s2, t2, s3, t3, s4, t4, s5, t5, s6, t6, s7, t7, s8, t8⟩ := cells9_of hk7
  have hq := st9 (x0 := .string z.id) (x1 := .string z.fl) (x2 := .int .i64 z.nu) (x3 := .string z.ve.1) (x4 := .int .i64 z.ve.2.1) (x5 := .int .i64 z.ve.2.2) (x6 := .int .i64 z.wd) (x7 := .int .i64 z.ln) (x8 := .slice ao nn cc) hk0
  have HBL := Lib.hid (bel9 (x0 := .string z.id) (x1 := .string z.fl) (x2 := .int .i64 z.nu) (x3 := .string z.ve.1) (x4 := .int .i64 z.ve.2.1) (x5 := .int .i64 z.ve.2.2) (x6 := .int .i64 z.wd) (x7 := .int .i64 z.ln) (x8 := .slice ao nn cc) (p := w.heap.size) HB2.out (Nat.le_refl _))
  have HOL := Lib.hid (own_lower (keep9 (x0 := .string z.id) (x1 := .string z.fl) (x2 := .int .i64 z.nu) (x3 := .string z.ve.1) (x4 := .int .i64 z.ve.2.1) (x5 := .int .i64 z.ve.2.2) (x6 := .int .i64 z.wd) (x7 := .int .i64 z.ln) (x8 := .slice ao nn cc) (p := w.heap.size) HO2.out (by simp; omega)) HA.out.size)
  clear g1 ho
  go_wp2
  clear c0 f0 c1 f1 c2 f2 c3 f3 c4 f4 c5 f5 c6 f6 c7 f7 c8 f8 s0 t0 s1 t1 s2 t2 s3 t3 s4 t4 s5 t5 s6 t6 s7 t7 s8 t8
  obtain ⟨_, q0, _, q1, _, q2, _, q3, _, q4, _, q5, _, q6, _, q7, _, q8, _⟩ := cells9_of hq
  refine bodyPost_ret (v := .tuple #[.agg #[.string z.id, .string z.fl, .int .i64 z.nu, .string z.ve.1, .int .i64 z.ve.2.1, .int .i64 z.ve.2.2, .int .i64 z.wd, .int .i64 z.ln, .slice ao nn cc], .int .i64 0]) ?_ rfl ⟨ao, nn, cc, rfl, HOL.out, HBL.out⟩
  clear hq hk0 hk7
  generalize World.setCell _ _ _ = W at *
  simp [results, Tryd.results53, go_sem, q0, q1, q2, q3, q4, q5, q6, q7, q8]
set_option maxRecDepth 100000 in
set_option maxHeartbeats 4000000 in
theorem wcl_err (k0 k1 : Value) (k : Int) (a : Addr) (w : World) (h : ∀ w', Below w.heap.size w w' → Calls Tryd.prog 55 #[k0, k1] w' fun e w'' => e = .returned (.tuple #[lfW lf0 (.slice none 0 0), esV a]) ∧ Below w'.heap.size w' w'')
    (hc : ∀ w', Below w.heap.size w w' → Calls Tryd.prog 86 #[esV a] w' fun e w'' => e = .returned (.int .i64 k) ∧ w' = w'') :
    Calls Tryd.prog 53 #[.bool true, .func (.func 55) #[] #[k0, k1]] w fun e w' => e = .returned (.tuple #[lfW lf0 (.slice none 0 0), .int .i64 k]) ∧ Below w.heap.size w w' := by
  have HA := Lib.hid (two_allocs (w := w) (.cells #[.string ⟨#[]⟩, .string ⟨#[]⟩, .int .i64 0, .string ⟨#[]⟩, .int .i64 0, .int .i64 0, .int .i64 0, .int .i64 0, .slice none 0 0] 33) (.cells #[.string ⟨#[]⟩, .string ⟨#[]⟩, .int .i64 0, .string ⟨#[]⟩, .int .i64 0, .int .i64 0, .int .i64 0, .int .i64 0, .slice none 0 0] 33))
  have HH := Lib.hid (h _ HA.out)
  have HC := Lib.hid hc
  obtain ⟨h0, h1⟩ := two_zero w
  have H0 := Lib.hid h0
  have H1 := Lib.hid h1
  rw [lfW0] at HH ⊢
  unfold esV at HH HC
  clear h h0 h1 hc
  go_enter Tryd.func53, Tryd.ntmps53
  go_wp2_with fail
  refine (HH.out).mono ?_
  rintro e w1 ⟨rfl, g1⟩
  have HB1 := Lib.hid (bseq HA.out g1)
  have hA3 := one_alloc (w := w1) (.cells #[.string ⟨#[]⟩, .string ⟨#[]⟩, .int .i64 0, .string ⟨#[]⟩, .int .i64 0, .int .i64 0, .int .i64 0, .int .i64 0, .slice none 0 0] 33)
  have HB3 := Lib.hid (HB1.out.trans (hA3.mono HB1.out.size))
  have hk0 := (hA3.block _ (blk_lt ((g1.block _ (blk_lt H0.out)).trans H0.out))).trans ((g1.block _ (blk_lt H0.out)).trans H0.out)
  have hk1 := (hA3.block _ (blk_lt ((g1.block _ (blk_lt H1.out)).trans H1.out))).trans ((g1.block _ (blk_lt H1.out)).trans H1.out)
  clear g1 hA3
  go_wp2
  generalize w1.alloc _ = W at *
  obtain ⟨hzk, s0, t0, s1, t1, s2, t2, s3, t3, s4, t4, s5, t5, s6, t6, s7, t7, s8, t8⟩ := cells9_of hk1
  refine wp_region_plan_tail 2 [3] [.val 0 [] (.agg #[.string ⟨#[]⟩, .string ⟨#[]⟩, .int .i64 0, .string ⟨#[]⟩, .int .i64 0, .int .i64 0, .int .i64 0, .int .i64 0, .slice none 0 0]), .val 1 [] (.iface 172 (.pointer (some a))), .val 2 [] (.int .i64 k)] (by kernel_rfl) (by kernel_rfl) rfl ?_
  refine plan_val (by kernel_rfl) (by kernel_rfl) (by kernel_rfl) (by go_simp) (fun w1 hw1 => ?_) ?_
  · obtain ⟨hc, hf⟩ := bcell hw1; clear hw1; go_simp; (try with_reducible rfl)
  (try simp only [Act.put, List.setIfInBounds_toArray, List.set_cons_zero, List.set_cons_succ])
  refine plan_val (by kernel_rfl) (by kernel_rfl) (by kernel_rfl) (by go_simp) (fun w1 hw1 => ?_) ?_
  · obtain ⟨hc, hf⟩ := bcell hw1; clear hw1; go_simp; (try with_reducible rfl)
  (try simp only [Act.put, List.setIfInBounds_toArray, List.set_cons_zero, List.set_cons_succ])
  refine plan_call [] 86 #[.iface 172 (.pointer (some a))] (by kernel_rfl) (by kernel_rfl) (by kernel_rfl) (by kernel_rfl) (by go_simp) (fun w1 hw1 => ?_) (fun w1 hC => ?_) ?_
  · clear hw1; go_simp; (try with_reducible rfl)
  · exact (HC.out w1 (HB3.out.trans (hC.1.mono HB3.out.size))).mono (fun e w2 h => ⟨h.1, h.2 ▸ Below.refl _ _⟩)
  (try simp only [Act.put, List.setIfInBounds_toArray, List.set_cons_zero, List.set_cons_succ])
  refine plan_tail_w (by kernel_rfl) (by kernel_rfl) rfl (fun w4 hC => ?_)
  have hk4 := (hC.1.block _ (blk_lt hk0)).trans hk0
  have HB4 := Lib.hid (HB3.out.trans (hC.1.mono HB3.out.size))
  clear hC s0 t0 s1 t1 s2 t2 s3 t3 s4 t4 s5 t5 s6 t6 s7 t7 s8 t8 hzk
  obtain ⟨hzl, c0, f0, c1, f1, c2, f2, c3, f3, c4, f4, c5, f5, c6, f6, c7, f7, c8, f8⟩ := cells9_of hk4
  gi_wp2
  have hq := st9 (x0 := .string ⟨#[]⟩) (x1 := .string ⟨#[]⟩) (x2 := .int .i64 0) (x3 := .string ⟨#[]⟩) (x4 := .int .i64 0) (x5 := .int .i64 0) (x6 := .int .i64 0) (x7 := .int .i64 0) (x8 := .slice none 0 0) hk4
  have HBL := Lib.hid (bel9 (x0 := .string ⟨#[]⟩) (x1 := .string ⟨#[]⟩) (x2 := .int .i64 0) (x3 := .string ⟨#[]⟩) (x4 := .int .i64 0) (x5 := .int .i64 0) (x6 := .int .i64 0) (x7 := .int .i64 0) (x8 := .slice none 0 0) (p := w.heap.size) HB4.out (Nat.le_refl _))
  clear c0 f0 c1 f1 c2 f2 c3 f3 c4 f4 c5 f5 c6 f6 c7 f7 c8 f8
  obtain ⟨_, q0, _, q1, _, q2, _, q3, _, q4, _, q5, _, q6, _, q7, _, q8, _⟩ := cells9_of hq
  go_wp2
  refine bodyPost_ret (v := .tuple #[.agg #[.string ⟨#[]⟩, .string ⟨#[]⟩, .int .i64 0, .string ⟨#[]⟩, .int .i64 0, .int .i64 0, .int .i64 0, .int .i64 0, .slice none 0 0], .int .i64 k]) ?_ rfl ⟨rfl, HBL.out⟩
  clear hq hk4 hk0 hk1
  generalize World.setCell _ _ _ = W' at *
  simp [results, Tryd.results53, go_sem, q0, q1, q2, q3, q4, q5, q6, q7, q8]
end Go.Proofs.YtcjpplijbdfgbaaDoor
namespace Go.Proofs.YtcjpplijbdfgbaaDoor
open Seq2 Go.ChangeShapes Go.WideShapes Go.ChangeAt Go.RowKit
set_option linter.unusedVariables false
set_option linter.unusedSimpArgs false

set_option maxRecDepth 100000 in
set_option maxHeartbeats 4000000 in
theorem clo_tm_err (q p1 : Nat) (E : ErrA) (s : Addr) (z : Lf) (ao : Option Addr) (n c : Nat) (x y a b : Int) (w : World) (hB : lfB z = true) (hd : BxV w ao n z.df) (hE : Errs w E) (hs : tmO E z (x, y, a, b) = some s)
    (hq : w.heap[q]? = some (.cells #[.string z.id, .string z.fl, .int .i64 z.nu, .string z.ve.1, .int .i64 z.ve.2.1, .int .i64 z.ve.2.2, .int .i64 z.wd, .int .i64 z.ln, .slice ao n c] 33 (0, 0))) (h1 : w.heap[p1]? = some (.cells #[.int .i64 x, .int .i64 y, .int .i64 a, .int .i64 b] 37 (0, 0))) :
    Calls Tryd.prog 55 #[.pointer (some ⟨q, 0, none⟩), .pointer (some ⟨p1, 0, none⟩)] w fun e w' => e = .returned (.tuple #[lfW lf0 (.slice none 0 0), esV s]) ∧ Below w.heap.size w w' := by
  have hA := one_alloc (w := w) (.cells #[.string ⟨#[]⟩, .string ⟨#[]⟩, .int .i64 0, .string ⟨#[]⟩, .int .i64 0, .int .i64 0, .int .i64 0, .int .i64 0, .slice none 0 0] 33)
  have HX := Lib.hid (World.alloc_heap_new w (.cells #[.string ⟨#[]⟩, .string ⟨#[]⟩, .int .i64 0, .string ⟨#[]⟩, .int .i64 0, .int .i64 0, .int .i64 0, .int .i64 0, .slice none 0 0] 33))
  have HC := Lib.hid (tmd_impl E z ao n c x y a b (w.alloc (.cells #[.string ⟨#[]⟩, .string ⟨#[]⟩, .int .i64 0, .string ⟨#[]⟩, .int .i64 0, .int .i64 0, .int .i64 0, .int .i64 0, .slice none 0 0] 33)) hB (hd.below hA) (hE.below hA))
  have HSS := Lib.hid hs
  obtain ⟨hzq, c0, f0, c1, f1, c2, f2, c3, f3, c4, f4, c5, f5, c6, f6, c7, f7, c8, f8⟩ := cells9_of hq
  have hz1 := blk_lt h1
  obtain ⟨b0, _, b1, _, b2, _, b3, _⟩ := cells4_of h1
  have HA := Lib.hid hA
  clear hB hd hE hs hq h1 hA
  go_enter Tryd.func55, Tryd.ntmps55
  go_wp2_with fail
  refine (HC.out).mono ?_
  rintro e w1 ⟨he, _, g1⟩
  obtain rfl := he s HSS.out
  have HB1 := Lib.hid (bseq HA.out g1)
  have hk := (g1.block _ (blk_lt HX.out)).trans HX.out
  rw [lfW0]
  unfold esV
  clear g1 he c0 f0 c1 f1 c2 f2 c3 f3 c4 f4 c5 f5 c6 f6 c7 f7 c8 f8 b0 b1 b2 b3
  obtain ⟨hzl, c0, f0, c1, f1, c2, f2, c3, f3, c4, f4, c5, f5, c6, f6, c7, f7, c8, f8⟩ := cells9_of hk
  have hq := st9 (x0 := .string ⟨#[]⟩) (x1 := .string ⟨#[]⟩) (x2 := .int .i64 0) (x3 := .string ⟨#[]⟩) (x4 := .int .i64 0) (x5 := .int .i64 0) (x6 := .int .i64 0) (x7 := .int .i64 0) (x8 := .slice none 0 0) hk
  have HBL := Lib.hid (bel9 (x0 := .string ⟨#[]⟩) (x1 := .string ⟨#[]⟩) (x2 := .int .i64 0) (x3 := .string ⟨#[]⟩) (x4 := .int .i64 0) (x5 := .int .i64 0) (x6 := .int .i64 0) (x7 := .int .i64 0) (x8 := .slice none 0 0) (p := w.heap.size) HB1.out (Nat.le_refl _))
  go_wp2
  clear c0 f0 c1 f1 c2 f2 c3 f3 c4 f4 c5 f5 c6 f6 c7 f7 c8 f8
  obtain ⟨_, q0, _, q1, _, q2, _, q3, _, q4, _, q5, _, q6, _, q7, _, q8, _⟩ := cells9_of hq
  refine bodyPost_ret (v := .tuple #[.agg #[.string ⟨#[]⟩, .string ⟨#[]⟩, .int .i64 0, .string ⟨#[]⟩, .int .i64 0, .int .i64 0, .int .i64 0, .int .i64 0, .slice none 0 0], .iface 172 (.pointer (some s))]) ?_ rfl ⟨rfl, HBL.out⟩
  clear hq hk
  generalize World.setCell _ _ _ = W at *
  simp [results, Tryd.results55, go_sem, q0, q1, q2, q3, q4, q5, q6, q7, q8]
set_option maxRecDepth 100000 in
set_option maxHeartbeats 4000000 in
theorem clo_tm_ok (q p1 : Nat) (E : ErrA) (z : Lf) (ao : Option Addr) (n c : Nat) (x y a b : Int) (w : World) (hB : lfB z = true) (hd : BxV w ao n z.df) (hE : Errs w E) (hs : tmO E z (x, y, a, b) = none)
    (hq : w.heap[q]? = some (.cells #[.string z.id, .string z.fl, .int .i64 z.nu, .string z.ve.1, .int .i64 z.ve.2.1, .int .i64 z.ve.2.2, .int .i64 z.wd, .int .i64 z.ln, .slice ao n c] 33 (0, 0))) (h1 : w.heap[p1]? = some (.cells #[.int .i64 x, .int .i64 y, .int .i64 a, .int .i64 b] 37 (0, 0))) :
    Calls Tryd.prog 55 #[.pointer (some ⟨q, 0, none⟩), .pointer (some ⟨p1, 0, none⟩)] w fun e w' => ∃ (ao2 : Option Addr) (nn cc : Nat), e = .returned (.tuple #[lfW (tmZ z (x, y, a, b)) (.slice ao2 nn cc), .nilIface]) ∧ OwnBx w' w.heap.size (.slice ao2 nn cc) (tmZ z (x, y, a, b)).df ∧ Below w.heap.size w w' := by
  have hA := one_alloc (w := w) (.cells #[.string ⟨#[]⟩, .string ⟨#[]⟩, .int .i64 0, .string ⟨#[]⟩, .int .i64 0, .int .i64 0, .int .i64 0, .int .i64 0, .slice none 0 0] 33)
  have HX := Lib.hid (World.alloc_heap_new w (.cells #[.string ⟨#[]⟩, .string ⟨#[]⟩, .int .i64 0, .string ⟨#[]⟩, .int .i64 0, .int .i64 0, .int .i64 0, .int .i64 0, .slice none 0 0] 33))
  have HC := Lib.hid (tmd_impl E z ao n c x y a b (w.alloc (.cells #[.string ⟨#[]⟩, .string ⟨#[]⟩, .int .i64 0, .string ⟨#[]⟩, .int .i64 0, .int .i64 0, .int .i64 0, .int .i64 0, .slice none 0 0] 33)) hB (hd.below hA) (hE.below hA))
  have HSS := Lib.hid hs
  obtain ⟨hzq, c0, f0, c1, f1, c2, f2, c3, f3, c4, f4, c5, f5, c6, f6, c7, f7, c8, f8⟩ := cells9_of hq
  have hz1 := blk_lt h1
  obtain ⟨b0, _, b1, _, b2, _, b3, _⟩ := cells4_of h1
  have HA := Lib.hid hA
  clear hB hd hE hs hq h1 hA
  go_enter Tryd.func55, Tryd.ntmps55
  go_wp2_with fail
  refine (HC.out).mono ?_
  rintro e w1 ⟨_, he, g1⟩
  obtain ⟨ao2, nn, cc, rfl, ho⟩ := he HSS.out
  have HB1 := Lib.hid (bseq HA.out g1)
  have hk := (g1.block _ (blk_lt HX.out)).trans HX.out
  have HO := Lib.hid (own_lower (keep9 (x0 := .string (tmZ z (x, y, a, b)).id) (x1 := .string (tmZ z (x, y, a, b)).fl) (x2 := .int .i64 (tmZ z (x, y, a, b)).nu) (x3 := .string (tmZ z (x, y, a, b)).ve.1) (x4 := .int .i64 (tmZ z (x, y, a, b)).ve.2.1) (x5 := .int .i64 (tmZ z (x, y, a, b)).ve.2.2) (x6 := .int .i64 (tmZ z (x, y, a, b)).wd) (x7 := .int .i64 (tmZ z (x, y, a, b)).ln) (x8 := .slice ao2 nn cc) (p := w.heap.size) ho (by simp)) HA.out.size)
  unfold lfW
  clear g1 he ho c0 f0 c1 f1 c2 f2 c3 f3 c4 f4 c5 f5 c6 f6 c7 f7 c8 f8 b0 b1 b2 b3
  obtain ⟨hzl, c0, f0, c1, f1, c2, f2, c3, f3, c4, f4, c5, f5, c6, f6, c7, f7, c8, f8⟩ := cells9_of hk
  have hq := st9 (x0 := .string (tmZ z (x, y, a, b)).id) (x1 := .string (tmZ z (x, y, a, b)).fl) (x2 := .int .i64 (tmZ z (x, y, a, b)).nu) (x3 := .string (tmZ z (x, y, a, b)).ve.1) (x4 := .int .i64 (tmZ z (x, y, a, b)).ve.2.1) (x5 := .int .i64 (tmZ z (x, y, a, b)).ve.2.2) (x6 := .int .i64 (tmZ z (x, y, a, b)).wd) (x7 := .int .i64 (tmZ z (x, y, a, b)).ln) (x8 := .slice ao2 nn cc) hk
  have HBL := Lib.hid (bel9 (x0 := .string (tmZ z (x, y, a, b)).id) (x1 := .string (tmZ z (x, y, a, b)).fl) (x2 := .int .i64 (tmZ z (x, y, a, b)).nu) (x3 := .string (tmZ z (x, y, a, b)).ve.1) (x4 := .int .i64 (tmZ z (x, y, a, b)).ve.2.1) (x5 := .int .i64 (tmZ z (x, y, a, b)).ve.2.2) (x6 := .int .i64 (tmZ z (x, y, a, b)).wd) (x7 := .int .i64 (tmZ z (x, y, a, b)).ln) (x8 := .slice ao2 nn cc) (p := w.heap.size) HB1.out (Nat.le_refl _))
  go_wp2
  clear c0 f0 c1 f1 c2 f2 c3 f3 c4 f4 c5 f5 c6 f6 c7 f7 c8 f8
  obtain ⟨_, q0, _, q1, _, q2, _, q3, _, q4, _, q5, _, q6, _, q7, _, q8, _⟩ := cells9_of hq
  refine bodyPost_ret (v := .tuple #[.agg #[.string (tmZ z (x, y, a, b)).id, .string (tmZ z (x, y, a, b)).fl, .int .i64 (tmZ z (x, y, a, b)).nu, .string (tmZ z (x, y, a, b)).ve.1, .int .i64 (tmZ z (x, y, a, b)).ve.2.1, .int .i64 (tmZ z (x, y, a, b)).ve.2.2, .int .i64 (tmZ z (x, y, a, b)).wd, .int .i64 (tmZ z (x, y, a, b)).ln, .slice ao2 nn cc], .nilIface]) ?_ rfl ⟨ao2, nn, cc, rfl, HO.out, HBL.out⟩
  clear hq hk
  generalize World.setCell _ _ _ = W at *
  simp [results, Tryd.results55, go_sem, q0, q1, q2, q3, q4, q5, q6, q7, q8]
set_option maxRecDepth 100000 in
set_option maxHeartbeats 8000000 in
theorem tm_impl (v : Value) (z : Lf) (x y a b : Int) (w : World) (hv : LfV w v z) (ht : TabAt w) (he : ErrsAt w) :
    Calls Tryd.prog 15 #[v, .agg #[.int .i64 x, .int .i64 y, .int .i64 a, .int .i64 b]] w (NewLf (tmR z (x, y, a, b)) w) := by
  unfold NewLf
  obtain ⟨E, hE⟩ := he.out
  have HVV := Lib.hid hv
  obtain ⟨ao, n, c, rfl, _, _, _, _, _, _, _, hn, hd⟩ := hv.out
  have hA := three_allocs (w := w) (.cells #[.string z.id, .string z.fl, .int .i64 z.nu, .string z.ve.1, .int .i64 z.ve.2.1, .int .i64 z.ve.2.2, .int .i64 z.wd, .int .i64 z.ln, .slice ao n c] 33) (.cells #[.int .i64 x, .int .i64 y, .int .i64 a, .int .i64 b] 37) (.cells #[.string ⟨#[]⟩, .string ⟨#[]⟩, .int .i64 0, .string ⟨#[]⟩, .int .i64 0, .int .i64 0, .int .i64 0, .int .i64 0, .slice none 0 0] 33)
  have HA := Lib.hid hA
  have HS := Lib.hid (tm_start w z ao n c x y a b)
  have HV := Lib.hid (hd.below hA)
  have HE := Lib.hid (hE.below hA)
  have HT := Lib.hid (ht.below hA)
  clear hv hd hA hE ht he
  cases hB : lfB z with
  | false =>
    have HR := Lib.hid (show tmR z (x, y, a, b) = (lf0, 1) by unfold tmR; rw [hB]; rfl)
    rw [HR.out]
    go_enter Tryd.func15, Tryd.ntmps15
    go_wp2_with fail
    refine (validL_impl _ z _ (HVV.out.below HA.out) HT.out).mono ?_
    rintro e w1 ⟨rfl, g1⟩
    have HG := Lib.hid (bseq HA.out g1)
    have HS1 := Lib.hid (HS.out.below g1)
    have HV1 := Lib.hid (HV.out.below g1)
    have HE1 := Lib.hid (HE.out.below g1)
    clear g1
    rw [hB]
    go_wp2_with fail
    refine (wcl_no _ _).mono ?_
    rintro e w2 ⟨rfl, g2⟩
    have HG2 := Lib.hid (bseq HG.out g2)
    have hk := (g2.block _ (blk_lt HS1.out.rs)).trans HS1.out.rs
    clear g2
    rw [lfW0]
    obtain ⟨hzl, c0, f0, c1, f1, c2, f2, c3, f3, c4, f4, c5, f5, c6, f6, c7, f7, c8, f8⟩ := cells9_of hk
    have hq := st9 (x0 := .string ⟨#[]⟩) (x1 := .string ⟨#[]⟩) (x2 := .int .i64 0) (x3 := .string ⟨#[]⟩) (x4 := .int .i64 0) (x5 := .int .i64 0) (x6 := .int .i64 0) (x7 := .int .i64 0) (x8 := .slice none 0 0) hk
    have HBL := Lib.hid (bel9 (x0 := .string ⟨#[]⟩) (x1 := .string ⟨#[]⟩) (x2 := .int .i64 0) (x3 := .string ⟨#[]⟩) (x4 := .int .i64 0) (x5 := .int .i64 0) (x6 := .int .i64 0) (x7 := .int .i64 0) (x8 := .slice none 0 0) (p := w.heap.size + 1 + 1) HG2.out (by omega))
    go_wp2
    clear c0 f0 c1 f1 c2 f2 c3 f3 c4 f4 c5 f5 c6 f6 c7 f7 c8 f8
    obtain ⟨_, q0, _, q1, _, q2, _, q3, _, q4, _, q5, _, q6, _, q7, _, q8, _⟩ := cells9_of hq
    refine bodyPost_ret (v := .tuple #[lfW lf0 (.slice none 0 0), .int .i64 1]) ?_ rfl ⟨_, rfl, OwnBx.nil _ _, HBL.out⟩
    clear hq hk
    generalize World.setCell _ _ _ = W at *
    simp [results, Tryd.results15, go_sem, q0, q1, q2, q3, q4, q5, q6, q7, q8, lfW0]
  | true =>
    by_cases h1 : boxW (x, y, a, b) z.wd z.ln = true
    rotate_left
    · simp only [Bool.not_eq_true] at h1
      have HR := Lib.hid (show tmR z (x, y, a, b) = (lf0, 2) by unfold tmR; rw [hB, h1]; rfl)
      have HO := Lib.hid (show tmO E z (x, y, a, b) = some E.r by unfold tmO; rw [h1]; rfl)
      rw [HR.out]
      go_enter Tryd.func15, Tryd.ntmps15
      go_wp2_with fail
      refine (validL_impl _ z _ (HVV.out.below HA.out) HT.out).mono ?_
      rintro e w1 ⟨rfl, g1⟩
      have HG := Lib.hid (bseq HA.out g1)
      have HS1 := Lib.hid (HS.out.below g1)
      have HV1 := Lib.hid (HV.out.below g1)
      have HE1 := Lib.hid (HE.out.below g1)
      clear g1
      rw [hB]
      go_wp2_with fail
      refine (wcl_err _ _ 2 E.r _ (fun w' hb => by have hs := HS1.out.below hb; exact clo_tm_err w.heap.size (w.heap.size + 1) E E.r z ao n c x y a b w' hB (HV1.out.below hb) (HE1.out.below hb) HO.out hs.lf hs.bx) (fun w' hb => code_R E w' (HE1.out.below hb))).mono ?_
      rintro e w2 ⟨rfl, g2⟩
      have HG2 := Lib.hid (bseq HG.out g2)
      have hk := (g2.block _ (blk_lt HS1.out.rs)).trans HS1.out.rs
      clear g2
      rw [lfW0]
      obtain ⟨hzl, c0, f0, c1, f1, c2, f2, c3, f3, c4, f4, c5, f5, c6, f6, c7, f7, c8, f8⟩ := cells9_of hk
      have hq := st9 (x0 := .string ⟨#[]⟩) (x1 := .string ⟨#[]⟩) (x2 := .int .i64 0) (x3 := .string ⟨#[]⟩) (x4 := .int .i64 0) (x5 := .int .i64 0) (x6 := .int .i64 0) (x7 := .int .i64 0) (x8 := .slice none 0 0) hk
      have HBL := Lib.hid (bel9 (x0 := .string ⟨#[]⟩) (x1 := .string ⟨#[]⟩) (x2 := .int .i64 0) (x3 := .string ⟨#[]⟩) (x4 := .int .i64 0) (x5 := .int .i64 0) (x6 := .int .i64 0) (x7 := .int .i64 0) (x8 := .slice none 0 0) (p := w.heap.size + 1 + 1) HG2.out (by omega))
      go_wp2
      clear c0 f0 c1 f1 c2 f2 c3 f3 c4 f4 c5 f5 c6 f6 c7 f7 c8 f8
      obtain ⟨_, q0, _, q1, _, q2, _, q3, _, q4, _, q5, _, q6, _, q7, _, q8, _⟩ := cells9_of hq
      refine bodyPost_ret (v := .tuple #[lfW lf0 (.slice none 0 0), .int .i64 2]) ?_ rfl ⟨_, rfl, OwnBx.nil _ _, HBL.out⟩
      clear hq hk
      generalize World.setCell _ _ _ = W at *
      simp [results, Tryd.results15, go_sem, q0, q1, q2, q3, q4, q5, q6, q7, q8, lfW0]
    by_cases hab : 10 ≤ a ∧ 10 ≤ b
    rotate_left
    · have HR := Lib.hid (show tmR z (x, y, a, b) = (lf0, 6) by
        unfold tmR; rw [hB, h1, if_pos rfl, if_pos rfl]; simp only
        by_cases h10 : 10 ≤ a
        · rw [if_pos h10, if_neg (by omega)]
        · rw [if_neg h10])
      have HO := Lib.hid (show tmO E z (x, y, a, b) = some E.s by
        unfold tmO; rw [h1, if_pos rfl]; simp only
        by_cases h10 : 10 ≤ a
        · rw [if_pos h10, if_neg (by omega)]
        · rw [if_neg h10])
      rw [HR.out]
      go_enter Tryd.func15, Tryd.ntmps15
      go_wp2_with fail
      refine (validL_impl _ z _ (HVV.out.below HA.out) HT.out).mono ?_
      rintro e w1 ⟨rfl, g1⟩
      have HG := Lib.hid (bseq HA.out g1)
      have HS1 := Lib.hid (HS.out.below g1)
      have HV1 := Lib.hid (HV.out.below g1)
      have HE1 := Lib.hid (HE.out.below g1)
      clear g1
      rw [hB]
      go_wp2_with fail
      refine (wcl_err _ _ 6 E.s _ (fun w' hb => by have hs := HS1.out.below hb; exact clo_tm_err w.heap.size (w.heap.size + 1) E E.s z ao n c x y a b w' hB (HV1.out.below hb) (HE1.out.below hb) HO.out hs.lf hs.bx) (fun w' hb => code_S E w' (HE1.out.below hb))).mono ?_
      rintro e w2 ⟨rfl, g2⟩
      have HG2 := Lib.hid (bseq HG.out g2)
      have hk := (g2.block _ (blk_lt HS1.out.rs)).trans HS1.out.rs
      clear g2
      rw [lfW0]
      obtain ⟨hzl, c0, f0, c1, f1, c2, f2, c3, f3, c4, f4, c5, f5, c6, f6, c7, f7, c8, f8⟩ := cells9_of hk
      have hq := st9 (x0 := .string ⟨#[]⟩) (x1 := .string ⟨#[]⟩) (x2 := .int .i64 0) (x3 := .string ⟨#[]⟩) (x4 := .int .i64 0) (x5 := .int .i64 0) (x6 := .int .i64 0) (x7 := .int .i64 0) (x8 := .slice none 0 0) hk
      have HBL := Lib.hid (bel9 (x0 := .string ⟨#[]⟩) (x1 := .string ⟨#[]⟩) (x2 := .int .i64 0) (x3 := .string ⟨#[]⟩) (x4 := .int .i64 0) (x5 := .int .i64 0) (x6 := .int .i64 0) (x7 := .int .i64 0) (x8 := .slice none 0 0) (p := w.heap.size + 1 + 1) HG2.out (by omega))
      go_wp2
      clear c0 f0 c1 f1 c2 f2 c3 f3 c4 f4 c5 f5 c6 f6 c7 f7 c8 f8
      obtain ⟨_, q0, _, q1, _, q2, _, q3, _, q4, _, q5, _, q6, _, q7, _, q8, _⟩ := cells9_of hq
      refine bodyPost_ret (v := .tuple #[lfW lf0 (.slice none 0 0), .int .i64 6]) ?_ rfl ⟨_, rfl, OwnBx.nil _ _, HBL.out⟩
      clear hq hk
      generalize World.setCell _ _ _ = W at *
      simp [results, Tryd.results15, go_sem, q0, q1, q2, q3, q4, q5, q6, q7, q8, lfW0]
    have HR := Lib.hid (show tmR z (x, y, a, b) = (tmZ z (x, y, a, b), 0) by unfold tmR; rw [hB, h1]; simp [hab.1, hab.2])
    have HO := Lib.hid (show tmO E z (x, y, a, b) = none by unfold tmO; rw [h1, if_pos rfl]; simp [hab.1, hab.2])
    rw [HR.out]
    go_enter Tryd.func15, Tryd.ntmps15
    go_wp2_with fail
    refine (validL_impl _ z _ (HVV.out.below HA.out) HT.out).mono ?_
    rintro e w1 ⟨rfl, g1⟩
    have HG := Lib.hid (bseq HA.out g1)
    have HS1 := Lib.hid (HS.out.below g1)
    have HV1 := Lib.hid (HV.out.below g1)
    have HE1 := Lib.hid (HE.out.below g1)
    clear g1
    rw [hB]
    go_wp2_with fail
    refine (wcl_ok _ _ (tmZ z (x, y, a, b)) _ (fun w' hb => by have hs := HS1.out.below hb; exact clo_tm_ok w.heap.size (w.heap.size + 1) E z ao n c x y a b w' hB (HV1.out.below hb) (HE1.out.below hb) HO.out hs.lf hs.bx)).mono ?_
    rintro e w2 ⟨ao2, nn, cc, rfl, ho, g2⟩
    have HG2 := Lib.hid (bseq HG.out g2)
    have hk := (g2.block _ (blk_lt HS1.out.rs)).trans HS1.out.rs
    have HO := Lib.hid (own_lower (keep9 (x0 := .string (tmZ z (x, y, a, b)).id) (x1 := .string (tmZ z (x, y, a, b)).fl) (x2 := .int .i64 (tmZ z (x, y, a, b)).nu) (x3 := .string (tmZ z (x, y, a, b)).ve.1) (x4 := .int .i64 (tmZ z (x, y, a, b)).ve.2.1) (x5 := .int .i64 (tmZ z (x, y, a, b)).ve.2.2) (x6 := .int .i64 (tmZ z (x, y, a, b)).wd) (x7 := .int .i64 (tmZ z (x, y, a, b)).ln) (x8 := .slice ao2 nn cc) (p := w.heap.size + 1 + 1) ho (by have := blk_lt HS1.out.rs; omega)) HG.out.size)
    clear g2 ho
    obtain ⟨hzl, c0, f0, c1, f1, c2, f2, c3, f3, c4, f4, c5, f5, c6, f6, c7, f7, c8, f8⟩ := cells9_of hk
    have hq := st9 (x0 := .string (tmZ z (x, y, a, b)).id) (x1 := .string (tmZ z (x, y, a, b)).fl) (x2 := .int .i64 (tmZ z (x, y, a, b)).nu) (x3 := .string (tmZ z (x, y, a, b)).ve.1) (x4 := .int .i64 (tmZ z (x, y, a, b)).ve.2.1) (x5 := .int .i64 (tmZ z (x, y, a, b)).ve.2.2) (x6 := .int .i64 (tmZ z (x, y, a, b)).wd) (x7 := .int .i64 (tmZ z (x, y, a, b)).ln) (x8 := .slice ao2 nn cc) hk
    have HBL := Lib.hid (bel9 (x0 := .string (tmZ z (x, y, a, b)).id) (x1 := .string (tmZ z (x, y, a, b)).fl) (x2 := .int .i64 (tmZ z (x, y, a, b)).nu) (x3 := .string (tmZ z (x, y, a, b)).ve.1) (x4 := .int .i64 (tmZ z (x, y, a, b)).ve.2.1) (x5 := .int .i64 (tmZ z (x, y, a, b)).ve.2.2) (x6 := .int .i64 (tmZ z (x, y, a, b)).wd) (x7 := .int .i64 (tmZ z (x, y, a, b)).ln) (x8 := .slice ao2 nn cc) (p := w.heap.size + 1 + 1) HG2.out (by omega))
    unfold lfW
    go_wp2
    clear c0 f0 c1 f1 c2 f2 c3 f3 c4 f4 c5 f5 c6 f6 c7 f7 c8 f8
    obtain ⟨_, q0, _, q1, _, q2, _, q3, _, q4, _, q5, _, q6, _, q7, _, q8, _⟩ := cells9_of hq
    refine bodyPost_ret (v := .tuple #[.agg #[.string (tmZ z (x, y, a, b)).id, .string (tmZ z (x, y, a, b)).fl, .int .i64 (tmZ z (x, y, a, b)).nu, .string (tmZ z (x, y, a, b)).ve.1, .int .i64 (tmZ z (x, y, a, b)).ve.2.1, .int .i64 (tmZ z (x, y, a, b)).ve.2.2, .int .i64 (tmZ z (x, y, a, b)).wd, .int .i64 (tmZ z (x, y, a, b)).ln, .slice ao2 nn cc], .int .i64 0]) ?_ rfl ⟨_, rfl, HO.out, HBL.out⟩
    clear hq hk
    generalize World.setCell _ _ _ = W at *
    simp [results, Tryd.results15, go_sem, q0, q1, q2, q3, q4, q5, q6, q7, q8]
end Go.Proofs.YtcjpplijbdfgbaaDoor
