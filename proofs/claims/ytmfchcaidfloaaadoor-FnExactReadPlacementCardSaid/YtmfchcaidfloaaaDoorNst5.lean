/- A struct of five numbers: its cells, all of them stored. The text of a placement. -/
import Derived.Test.YtmfchcaidfloaaaDoorNst1
import Derived.Test.YtmfchcaidfloaaaDoorK14
import Derived.Test.YtmfchcaidfloaaaDoorLft
namespace Go.Proofs.YtmfchcaidfloaaaDoor
open Seq2 Go.ChangeShapes Go.WideShapes Go.ChangeAt Go.RowKit
set_option linter.unusedVariables false
set_option linter.unusedSimpArgs false

theorem cells5_of {w : World} {p : Nat} {c0 c1 c2 c3 c4 : Value} {t : TypeId} (h : w.heap[p]? = some (.cells #[c0, c1, c2, c3, c4] t (0, 0))) : p < w.heap.size ∧ w.cell? ⟨p, 0, none⟩ = some c0 ∧ w.frozen? ⟨p, 0, none⟩ = false ∧ w.cell? ⟨p, 1, none⟩ = some c1 ∧ w.frozen? ⟨p, 1, none⟩ = false ∧ w.cell? ⟨p, 2, none⟩ = some c2 ∧ w.frozen? ⟨p, 2, none⟩ = false ∧ w.cell? ⟨p, 3, none⟩ = some c3 ∧ w.frozen? ⟨p, 3, none⟩ = false ∧ w.cell? ⟨p, 4, none⟩ = some c4 ∧ w.frozen? ⟨p, 4, none⟩ = false := ⟨blk_lt h, (cell_of_arr h (j := 0) rfl).1, (cell_of_arr h (j := 0) rfl).2, (cell_of_arr h (j := 1) rfl).1, (cell_of_arr h (j := 1) rfl).2, (cell_of_arr h (j := 2) rfl).1, (cell_of_arr h (j := 2) rfl).2, (cell_of_arr h (j := 3) rfl).1, (cell_of_arr h (j := 3) rfl).2, (cell_of_arr h (j := 4) rfl).1, (cell_of_arr h (j := 4) rfl).2⟩
theorem st5 {w : World} {p : Nat} {c0 c1 c2 c3 c4 x0 x1 x2 x3 x4 : Value} {t : TypeId} (h : w.heap[p]? = some (.cells #[c0, c1, c2, c3, c4] t (0, 0))) : (((((w.setCell ⟨p, 0, none⟩ x0).setCell ⟨p, 1, none⟩ x1).setCell ⟨p, 2, none⟩ x2).setCell ⟨p, 3, none⟩ x3).setCell ⟨p, 4, none⟩ x4).heap[p]? = some (.cells #[x0, x1, x2, x3, x4] t (0, 0)) := by
  have h0 := heap_setCell_same _ p 0 _ _ x0 h
  have h1 := heap_setCell_same _ p 1 _ _ x1 h0
  have h2 := heap_setCell_same _ p 2 _ _ x2 h1
  have h3 := heap_setCell_same _ p 3 _ _ x3 h2
  have h4 := heap_setCell_same _ p 4 _ _ x4 h3
  rw [h4]
  simp
theorem bel5 {B : Nat} {w0 w : World} {p : Nat} {x0 x1 x2 x3 x4 : Value} (hb : Below B w0 w) (hp : B ≤ p) : Below B w0 (((((w.setCell ⟨p, 0, none⟩ x0).setCell ⟨p, 1, none⟩ x1).setCell ⟨p, 2, none⟩ x2).setCell ⟨p, 3, none⟩ x3).setCell ⟨p, 4, none⟩ x4) := (Below.setCell (Below.setCell (Below.setCell (Below.setCell (Below.setCell hb (p := ⟨p, 0, none⟩) hp x0) (p := ⟨p, 1, none⟩) hp x1) (p := ⟨p, 2, none⟩) hp x2) (p := ⟨p, 3, none⟩) hp x3) (p := ⟨p, 4, none⟩) hp x4)
set_option maxRecDepth 100000 in
theorem PmAt.box (w : World) (f l x y t : Int) (ty : TypeId) : PmAt (w.alloc (.cells #[.int .i64 f, .int .i64 l, .int .i64 x, .int .i64 y, .int .i64 t] ty)) w.heap.size 0 (f, l, x, y, t) := by
  have h := World.alloc_heap_new w (.cells #[.int .i64 f, .int .i64 l, .int .i64 x, .int .i64 y, .int .i64 t] ty)
  obtain ⟨hz, c0, _, c1, _, c2, _, c3, _, c4, _⟩ := cells5_of h
  exact ⟨hz, c0, c1, c2, c3, c4⟩
theorem ints5p (a b x y z : Int) (t : TypeId) (w : World) : IntsAt (w.alloc (.cells #[.int .i64 a, .int .i64 b, .int .i64 x, .int .i64 y, .int .i64 z] t)) w.heap.size [a, b, x, y, z] := by
  refine ⟨by simp, fun j hj => ?_⟩
  match j, hj with
  | 0, _ => simp
  | 1, _ => simp
  | 2, _ => simp
  | 3, _ => simp
  | 4, _ => simp
theorem text5p (zs : List Int) (t : List UInt8) (b : Nat) (w : World) (h1 : IntsAt w b zs) (hl : zs.length = 5) (ht : TabOk w) (hr : listR zs = t) :
    Calls Tryd.prog 29 #[.slice (some ⟨b, 0, none⟩) 5 5] w fun e w' => e = .returned (.string (tb t)) ∧ Below w.heap.size w w' := by
  have := listText_impl b 5 zs w (by omega) h1 ht
  rw [hl, hr] at this
  exact this
def pmL (z : Pm) : List Int := [z.1, z.2.1, z.2.2.1, z.2.2.2.1, z.2.2.2.2]
def ptT (z : Pm) : List UInt8 := if pmB z then listT (pmL z) else []
theorem fit_pm {z : Pm} (h : pmB z = true) : fitB (pmL z) = true := by
  have := pmB_iff.1 h
  unfold fitB
  rw [wi_yes (fun j hj => ?_)]
  · rfl
  · match j, hj with
    | 0, _ => exact inI_iff2 _ _ _ |>.2 (by simp [pmL]; omega)
    | 1, _ => exact inI_iff2 _ _ _ |>.2 (by simp [pmL]; omega)
    | 2, _ => exact inI_iff2 _ _ _ |>.2 (by simp [pmL]; omega)
    | 3, _ => exact inI_iff2 _ _ _ |>.2 (by simp [pmL]; omega)
    | 4, _ => exact inI_iff2 _ _ _ |>.2 (by simp [pmL]; omega)
theorem list5 (b : Nat) (z : Pm) (w : World) (hB : pmB z = true) (h1 : IntsAt w b (pmL z)) : Calls Tryd.prog 56 #[.slice (some ⟨b, 0, none⟩) 5 5] w fun e w' => e = .returned (.string (tb (listT (pmL z)))) ∧ Below w.heap.size w w' :=
  list_any b 5 (pmL z) w (fit_pm hB) h1
set_option maxRecDepth 100000 in
set_option maxHeartbeats 4000000 in
theorem ptx_at (q o : Nat) (z : Pm) (w : World) (hv : PmAt w q o z) (hB : pmB z = true) : Calls Tryd.prog 27 #[.pointer (some ⟨q, o, none⟩)] w fun e w' => e = .returned (.string (tb (listT (pmL z)))) ∧ Below w.heap.size w w' := by
  have HL5 := Lib.hid (fun b w1 => list5 b z w1 hB)
  obtain ⟨hq, c0, c1, c2, c3, c4⟩ := hv
  obtain ⟨f, l, x, y, t⟩ := z
  simp only at c0 c1 c2 c3 c4
  clear hB
  go_enter Tryd.func27, Tryd.ntmps27
  go_wp2
  refine Seq3.wp_region w [0, 1, 2, 3, 4, 5, 6, 7, 8, 9, 10, 11, 12, 13, 14, 15, 16, 17, 18, 19] [(20, []), (21, [22])] (by kernel_rfl) (by kernel_rfl) rfl (Below.refl _ _) (fun w1 hh hb1 => ?_)
  repeat (first | (refine Seq2.fl_row (by decide) ?_) | (refine Seq2.fl_skip (by kernel_rfl) (by kernel_rfl) ?_ ?_; (focus (go_simp; (first | done | (simp [undef]; done)))); (try simp only [Act.put, List.setIfInBounds_toArray, List.set_cons_zero, List.set_cons_succ])) | (refine Seq2.fl_val (by kernel_rfl) (by kernel_rfl) ?_ ?_; (focus (go_simp; done)); apply Exists.intro; refine ⟨fun w2 hw2 => ?_, ?_⟩; (focus (obtain ⟨hc, hf⟩ := bcell hw2; clear hw2; go_simp; (first | done | with_reducible rfl | (with_reducible exact eql2 _ _ _) | (with_reducible exact neq2 _ _ _)))); (try simp only [Act.put, List.setIfInBounds_toArray, List.set_cons_zero, List.set_cons_succ])))
  refine Seq2.fl_nil ?_
  have hs1 : w1.heap.size = w.heap.size := by first | exact hh | exact hh.symm | (rw [hh]) | simp [hh]
  refine Seq3.c3_one (by kernel_rfl) rfl ?_
  gi_wp2
  refine ⟨hb1.alloc hb1.size _, ?_⟩
  refine Seq3.mid 21 ?_
  simp only [List.drop_succ_cons, List.drop_zero]
  repeat (first | (refine Seq2.fl_row (by decide) ?_) | (refine Seq2.fl_skip (by kernel_rfl) (by kernel_rfl) ?_ ?_; (focus (go_simp; (first | done | (simp [undef]; done)))); (try simp only [Act.put, List.setIfInBounds_toArray, List.set_cons_zero, List.set_cons_succ])) | (refine Seq2.fl_val (by kernel_rfl) (by kernel_rfl) ?_ ?_; (focus (go_simp; done)); apply Exists.intro; refine ⟨fun w2 hw2 => ?_, ?_⟩; (focus (obtain ⟨hc, hf⟩ := bcell hw2; clear hw2; go_simp; (first | done | with_reducible rfl | (with_reducible exact eql2 _ _ _) | (with_reducible exact neq2 _ _ _)))); (try simp only [Act.put, List.setIfInBounds_toArray, List.set_cons_zero, List.set_cons_succ])))
  refine Seq2.fl_nil ?_
  have HB1 := Lib.hid (hb1.alloc hb1.size (.cells #[.int .i64 f, .int .i64 l, .int .i64 x, .int .i64 y, .int .i64 t] 2))
  have HC5 := Lib.hid (HL5.out w.heap.size (w1.alloc (.cells #[.int .i64 f, .int .i64 l, .int .i64 x, .int .i64 y, .int .i64 t] 2)) (by have hi := ints5p f l x y t 2 w1; rw [hs1] at hi; exact hi))
  clear HL5
  refine Seq3.c3_one (by kernel_rfl) rfl ?_
  gi_wp2_with fail
  refine ⟨trivial, rfl, (callsIn_wide.2 HC5.out).mono ?_⟩
  rintro e w2 ⟨rfl, g2⟩
  have HB2 := Lib.hid (HB1.out.trans (g2.mono HB1.out.size))
  clear g2
  gi_wp2
  refine ⟨HB2.out, ?_⟩
  refine Seq3.mid 22 ?_
  simp only [List.drop_succ_cons, List.drop_zero]
  repeat (first | (refine Seq2.fl_row (by decide) ?_) | (refine Seq2.fl_skip (by kernel_rfl) (by kernel_rfl) ?_ ?_; (focus (go_simp; (first | done | (simp [undef]; done)))); (try simp only [Act.put, List.setIfInBounds_toArray, List.set_cons_zero, List.set_cons_succ])) | (refine Seq2.fl_val (by kernel_rfl) (by kernel_rfl) ?_ ?_; (focus (go_simp; done)); apply Exists.intro; refine ⟨fun w2 hw2 => ?_, ?_⟩; (focus (obtain ⟨hc, hf⟩ := bcell hw2; clear hw2; go_simp; (first | done | with_reducible rfl | (with_reducible exact eql2 _ _ _) | (with_reducible exact neq2 _ _ _)))); (try simp only [Act.put, List.setIfInBounds_toArray, List.set_cons_zero, List.set_cons_succ])))
  refine Seq2.fl_nil ?_
  refine Seq3.c3_nil (by kernel_rfl) ?_
  go_wp2
  go_ret
  exact ⟨rfl, HB2.out⟩
set_option maxRecDepth 100000 in
set_option maxHeartbeats 4000000 in
theorem ptx_spec (f l x y t : Int) (w : World) : Calls Tryd.prog 7 #[.agg #[.int .i64 f, .int .i64 l, .int .i64 x, .int .i64 y, .int .i64 t]] w fun e w' => e = .returned (.string (tb (ptT (f, l, x, y, t)))) ∧ Below w.heap.size w w' := by
  have HV := Lib.hid (PmAt.box w f l x y t 25)
  have HA := Lib.hid (one_alloc (w := w) (.cells #[.int .i64 f, .int .i64 l, .int .i64 x, .int .i64 y, .int .i64 t] 25))
  cases h : pmB (f, l, x, y, t) with
  | false =>
    rw [show ptT (f, l, x, y, t) = [] by unfold ptT; rw [h]; rfl]
    go_enter Tryd.func7, Tryd.ntmps7
    go_wp2_with fail
    refine (one_pm w.heap.size 0 (f, l, x, y, t) _ HV.out).mono ?_
    rintro e w1 ⟨rfl, rfl⟩
    rw [h]
    go_wp2
    go_ret
    exact ⟨rfl, HA.out⟩
  | true =>
    rw [show ptT (f, l, x, y, t) = listT (pmL (f, l, x, y, t)) by unfold ptT; rw [h]; rfl]
    go_enter Tryd.func7, Tryd.ntmps7
    go_wp2_with fail
    refine (one_pm w.heap.size 0 (f, l, x, y, t) _ HV.out).mono ?_
    rintro e w1 ⟨rfl, rfl⟩
    rw [h]
    go_wp2_with fail
    refine (ptx_at w.heap.size 0 (f, l, x, y, t) _ HV.out h).mono ?_
    rintro e w2 ⟨rfl, g2⟩
    have HG := Lib.hid (bseq HA.out g2)
    clear g2
    go_wp2
    go_ret
    exact ⟨rfl, HG.out⟩
set_option maxRecDepth 100000 in
set_option maxHeartbeats 4000000 in
theorem ptx_impl (f l x y t : Int) (w : World) (ht : TabOk w) : Calls Tryd.prog 9 #[.agg #[.int .i64 f, .int .i64 l, .int .i64 x, .int .i64 y, .int .i64 t]] w fun e w' => e = .returned (.string (tb (ptT (f, l, x, y, t)))) ∧ Below w.heap.size w w' := by
  have HX := Lib.hid (World.alloc_heap_new w (.cells #[.int .i64 f, .int .i64 l, .int .i64 x, .int .i64 y, .int .i64 t] 25))
  have HA := Lib.hid (one_alloc (w := w) (.cells #[.int .i64 f, .int .i64 l, .int .i64 x, .int .i64 y, .int .i64 t] 25))
  have HT := Lib.hid (ht.below HA.out (Nat.le_refl _))
  clear ht
  cases h : pmB (f, l, x, y, t) with
  | false =>
    rw [show ptT (f, l, x, y, t) = [] by unfold ptT; rw [h]; rfl]
    go_enter Tryd.func9, Tryd.ntmps9
    go_wp2_with fail
    refine (valid_pm f l x y t _).mono ?_
    rintro e w1 ⟨rfl, g1⟩
    have HG := Lib.hid (bseq HA.out g1)
    clear g1
    rw [h]
    go_wp2
    go_ret
    exact ⟨rfl, HG.out⟩
  | true =>
    have HR := Lib.hid (show listR (pmL (f, l, x, y, t)) = listT (pmL (f, l, x, y, t)) by unfold listR; rw [fit_pm h]; rfl)
    rw [show ptT (f, l, x, y, t) = listT (pmL (f, l, x, y, t)) by unfold ptT; rw [h]; rfl]
    go_enter Tryd.func9, Tryd.ntmps9
    go_wp2_with fail
    refine (valid_pm f l x y t _).mono ?_
    rintro e w1 ⟨rfl, g1⟩
    have HG := Lib.hid (bseq HA.out g1)
    have HX1 := Lib.hid ((g1.block _ (blk_lt HX.out)).trans HX.out)
    have HT1 := Lib.hid (HT.out.below g1 (Nat.le_refl _))
    clear g1
    rw [h]
    obtain ⟨hz, c0, _, c1, _, c2, _, c3, _, c4, _⟩ := cells5_of HX1.out
    have HG2 := Lib.hid (HG.out.alloc HG.out.size (.cells #[.int .i64 f, .int .i64 l, .int .i64 x, .int .i64 y, .int .i64 t] 2))
    go_wp2_with fail
    refine (text5p (pmL (f, l, x, y, t)) (listT (pmL (f, l, x, y, t))) w1.heap.size _ (ints5p f l x y t _ w1) rfl (HT1.out.below (one_alloc _) (Nat.le_refl _)) HR.out).mono ?_
    rintro e w2 ⟨rfl, g2⟩
    have HG3 := Lib.hid (bseq HG2.out g2)
    clear g2
    go_wp2
    go_ret
    exact ⟨rfl, HG3.out⟩
end Go.Proofs.YtmfchcaidfloaaaDoor
