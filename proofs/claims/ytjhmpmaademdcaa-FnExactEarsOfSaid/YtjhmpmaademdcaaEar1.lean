/- The tips of polygons, and whether a point is one of some: of impl. -/
import Derived.Test.YtjhmpmaademdcaaTri1
import Derived.Test.YtjhmpmaademdcaaPolyG2
import Derived.Test.YtjhmpmaademdcaaPolyImpl
import Derived.Test.YtjhmpmaademdcaaSeq3
namespace Go.Proofs.Ytjhmpmaademdcaa
open Go.ChangeShapes Go.WideShapes Go.ChangeAt Go.RowKit
set_option linter.unusedVariables false
set_option linter.unusedSimpArgs false

set_option maxRecDepth 100000 in
set_option maxHeartbeats 1000000 in
theorem index_pts (b n c : Nat) (zs : List P2) (x y : Int) (w : World) (hz : n = zs.length) (hn : n ≤ 1048576) (hp : PtsAt w b zs) :
    Calls Try.prog 182 #[.slice (some ⟨b, 0, none⟩) n c, .agg #[.int .i64 x, .int .i64 y]] w fun e w' => e = .returned (.int .i64 (ixI (idxP zs (x, y)))) ∧ Below w.heap.size w w' := by
  have hbw := hp.1
  have HZ := Lib.hid hz
  have HP := Lib.hid hp
  clear hz hp
  have HBX : Hid (Below w.heap.size w (w.alloc (.cells #[.int .i64 x, .int .i64 y] 30))) := Lib.hid (one_alloc _)
  have HCX := Lib.hid (cells2_of (World.alloc_heap_new w (.cells #[.int .i64 x, .int .i64 y] 30)))
  go_enter Try.func182, Try.ntmps182
  go_wp2
  go_loopw [8, 5] (fun iv jv wr => ∃ k : Nat, k ≤ n ∧ iv = .int .i64 k ∧ Hid (idxP (zs.take k) (x, y) = none) ∧ Hid (Below w.heap.size w wr) ∧ Hid (Below (w.heap.size + 1) (w.alloc (.cells #[.int .i64 x, .int .i64 y] 30)) wr)) (fun i _ _ => n - (intOf i).toNat)
  case atStart => exact ⟨0, by omega, rfl, Lib.hid rfl, HBX, Lib.hid (Below.refl _ _)⟩
  case round =>
    obtain ⟨k, hk, rfl, he, hw, hw2⟩ := hrel
    by_cases hlt : k < n
    · have hkz : k < zs.length := by have := HZ.out; omega
      have hp1 := HP.out.below hw.out HP.out.1
      have hbw1 := hp1.1
      have hbx : w.heap.size < wr.heap.size := by have := hw2.out.size; simp at this; omega
      obtain ⟨u, v, e, a0, a1⟩ := hp1.pt hkz
      have hx := HCX.out
      have x0 := (hw2.out.cell (p := ⟨w.heap.size, 0, none⟩) (by simp)).trans hx.1
      have x1 := (hw2.out.cell (p := ⟨w.heap.size, 1, none⟩) (by simp)).trans hx.2.2.1
      clear hp1 hx
      have E := Lib.hid e
      clear e
      go_wp2
      refine wp_region_below (by kernel_rfl) (by kernel_rfl) ?_
      repeat (first | (refine wq_skip ?_ ?_; (focus (go_simp; done)); (try simp only [Act.put, List.setIfInBounds_toArray, List.set_cons_zero, List.set_cons_succ])) | (refine wq_val ?_ ?_; (focus (go_simp; done)); apply Exists.intro; refine ⟨fun w1 hw1 => ?_, ?_⟩; (obtain ⟨hc, hf⟩ := bcell hw1; clear hw1; go_simp; (first | done | with_reducible rfl | (with_reducible exact eql2 _ _ _) | (with_reducible exact neq2 _ _ _))); (try simp only [Act.put, List.setIfInBounds_toArray, List.set_cons_zero, List.set_cons_succ])))
      refine wq_nil ?_
      intro w1 hb1
      have HW := Lib.hid (bseq hw.out hb1)
      have HW2 := Lib.hid (hw2.out.trans (hb1.mono (by omega)))
      clear hb1
      by_cases hxy : x = u ∧ y = v
      · obtain ⟨rfl, rfl⟩ := hxy
        go_wp2
        go_ret
        exact ⟨ret_int (by rw [idx_found hkz he.out E.out]; rfl), HW.out⟩
      · have hd : (decide (x = u) && decide (y = v)) = false := by by_cases h1 : x = u <;> by_cases h2 : y = v <;> simp_all
        generalize (decide (x = u) && decide (y = v)) = tt at *
        subst hd
        have HN := Lib.hid (idx_succ hkz he.out (by rw [E.out]; intro h; simp at h; exact hxy ⟨h.1.symm, h.2.symm⟩))
        clear hxy
        go_wp2
        go_roundw
        case rel => exact ⟨k + 1, by omega, by go_num, HN, HW, HW2⟩
        case measure => simp [intOf]; omega
    · go_wp2
      go_ret
      exact ⟨ret_int (by rw [idx_none (by have := HZ.out; omega) he.out]; rfl), hw.out⟩
def hasP (zs : List P2) (p : P2) : Bool := decide (0 ≤ ixI (idxP zs p))
theorem has_iff (zs : List P2) (p : P2) : hasP zs p = true ↔ p ∈ zs := by
  unfold hasP
  rw [decide_eq_true_eq]
  constructor
  · intro h
    cases e : idxP zs p with
    | none => rw [e] at h; simp [ixI] at h
    | some k =>
      unfold idxP at e
      obtain ⟨hk, h1, _⟩ := List.findIdx?_eq_some_iff_getElem.1 e
      exact (of_decide_eq_true h1) ▸ List.getElem_mem hk
  · intro h
    cases e : idxP zs p with
    | none =>
      unfold idxP at e
      rw [List.findIdx?_eq_none_iff] at e
      have := e p h
      simp at this
    | some k => simp [ixI]
theorem ix_rng (zs : List P2) (p : P2) : -1 ≤ ixI (idxP zs p) := by
  cases idxP zs p <;> simp [ixI] <;> omega
set_option maxRecDepth 100000 in
set_option maxHeartbeats 1000000 in
theorem contains_pts (b n c : Nat) (zs : List P2) (x y : Int) (w : World) (hz : n = zs.length) (hn : n ≤ 1048576) (hp : PtsAt w b zs) :
    Calls Try.prog 142 #[.slice (some ⟨b, 0, none⟩) n c, .agg #[.int .i64 x, .int .i64 y]] w fun e w' => e = .returned (.bool (hasP zs (x, y))) ∧ Below w.heap.size w w' := by
  have hbw := hp.1
  have HP := Lib.hid hp
  have HZ := Lib.hid hz
  clear hp hz
  have HR := Lib.hid (show hasP zs (x, y) = decide (0 ≤ ixI (idxP zs (x, y))) from rfl)
  go_enter Try.func142, Try.ntmps142
  go_wp2_with fail
  refine (index_pts b n c zs x y _ HZ.out hn (HP.out.below (one_alloc _) hbw)).mono ?_
  rintro e w1 ⟨rfl, g1⟩
  have HG1 := Lib.hid g1
  clear g1
  generalize ixI (idxP zs (x, y)) = i at *
  go_wp2
  go_ret
  exact ⟨ret_bool' HR.out.symm, bseq (one_alloc _) HG1.out⟩
theorem cells6_of {w : World} {b : Nat} {v0 v1 v2 v3 v4 v5 : Value} {t : TypeId} (h : w.heap[b]? = some (.cells #[v0, v1, v2, v3, v4, v5] t (0, 0))) :
    w.cell? ⟨b, 0, none⟩ = some v0 ∧ w.frozen? ⟨b, 0, none⟩ = false ∧ w.cell? ⟨b, 1, none⟩ = some v1 ∧ w.frozen? ⟨b, 1, none⟩ = false ∧ w.cell? ⟨b, 2, none⟩ = some v2 ∧ w.frozen? ⟨b, 2, none⟩ = false ∧
    w.cell? ⟨b, 3, none⟩ = some v3 ∧ w.frozen? ⟨b, 3, none⟩ = false ∧ w.cell? ⟨b, 4, none⟩ = some v4 ∧ w.frozen? ⟨b, 4, none⟩ = false ∧ w.cell? ⟨b, 5, none⟩ = some v5 ∧ w.frozen? ⟨b, 5, none⟩ = false := by
  simp [World.cell?, World.frozen?, h]
/-- A triangle out of three points. -/
def triP (a b c : P2) : Value := triV a.1 a.2 b.1 b.2 c.1 c.2
set_option maxRecDepth 100000 in
set_option maxHeartbeats 1000000 in
theorem tip_impl (b len cap k : Nat) (zs : List P2) (w : World) (hz : len = zs.length) (h1 : 1 ≤ len) (hl : len ≤ 1000) (hk : k < len) (hp : PtsAt w b zs) :
    Calls Try.prog 141 #[.slice (some ⟨b, 0, none⟩) len cap, .int .i64 k] w fun e w' => e = .returned (triP (pt zs (k + len - 1)) (pt zs k) (pt zs (k + 1))) ∧ Below w.heap.size w w' := by
  have HZ := Lib.hid hz
  have HP := Lib.hid hp
  have C1 := Lib.hid fun w (hp : PtsAt w b zs) => corner_any b len cap (k + len - 1) zs w hz h1 hl (by omega) hp
  have C2 := Lib.hid fun w (hp : PtsAt w b zs) => corner_any b len cap (k + 1) zs w hz h1 hl (by omega) hp
  have hbw := hp.1
  obtain ⟨x, y, e, c1, c2⟩ := hp.pt (k := k) (by omega)
  have e' : pt zs k = (x, y) := by rw [pt_lt (by omega)]; exact e
  rw [e']
  clear e e' hz hp
  unfold triP triV
  generalize pt zs (k + len - 1) = a at *
  generalize pt zs (k + 1) = d at *
  have g1 : ((k + len - 1 : Nat) : Int) = (k : Int) + len - 1 := by omega
  have g2 : ((k + 1 : Nat) : Int) = (k : Int) + 1 := by omega
  rw [g1] at C1
  rw [g2] at C2
  clear g1 g2
  obtain ⟨ax, ay⟩ := a
  obtain ⟨dx, dy⟩ := d
  simp only at C1 C2 ⊢
  go_enter Try.func141, Try.ntmps141
  go_wp2
  refine Seq3.wp_region w [0, 1, 2, 3, 4, 5, 7, 8, 9, 10, 11, 12, 13] [(6, []), (14, [15]), (16, [])] (by kernel_rfl) (by kernel_rfl) rfl (one_alloc _) (fun w1 hh hb1 => ?_)
  repeat (first | (refine Seq2.fl_row (by decide) ?_) | (refine Seq2.fl_skip (by kernel_rfl) (by kernel_rfl) ?_ ?_; (focus (go_simp; done)); (try simp only [Act.put, List.setIfInBounds_toArray, List.set_cons_zero, List.set_cons_succ])) | (refine Seq2.fl_val (by kernel_rfl) (by kernel_rfl) ?_ ?_; (focus (go_simp; done)); apply Exists.intro; refine ⟨fun w2 hw2 => ?_, ?_⟩; (focus (obtain ⟨hc, hf⟩ := bcell hw2; clear hw2; go_simp; (first | done | with_reducible rfl | (with_reducible exact eql2 _ _ _) | (with_reducible exact neq2 _ _ _)))); (try simp only [Act.put, List.setIfInBounds_toArray, List.set_cons_zero, List.set_cons_succ])))
  refine Seq2.fl_nil ?_
  refine Seq3.c3_one (by kernel_rfl) rfl ?_
  gi_wp2_with fail
  refine ⟨trivial, rfl, (callsIn_wide.2 (C1.out _ (HP.out.below ((one_alloc _).trans (hb1.mono (by simp))) hbw))).mono ?_⟩
  rintro e w2 ⟨rfl, g2⟩
  have HB2 := Lib.hid (hb1.trans (g2.mono hb1.size))
  clear g2 hb1 hh
  gi_wp2
  refine ⟨(one_alloc _).trans (HB2.out.mono (by simp)), ?_⟩
  refine Seq3.none ?_
  refine Seq3.c3_one (by kernel_rfl) rfl ?_
  gi_wp2_with fail
  refine ⟨trivial, rfl, (callsIn_wide.2 (C2.out _ (HP.out.below ((one_alloc _).trans (HB2.out.mono (by simp))) hbw))).mono ?_⟩
  rintro e w3 ⟨rfl, g3⟩
  have HB3 := Lib.hid (HB2.out.trans (g3.mono HB2.out.size))
  have hh3 : w3.heap[w.heap.size]? = _ := (HB3.out.block _ (by simp)).trans (World.alloc_heap_new _ _)
  obtain ⟨c0, f0, c1, f1, c2, f2, c3, f3, c4, f4, c5, f5⟩ := cells6_of hh3
  have hs3 : w.heap.size < w3.heap.size := by have := HB3.out.size; simp at this; omega
  clear g3 hh3
  gi_wp2
  refine ⟨(one_alloc _).trans (HB3.out.mono (by simp)), ?_⟩
  refine Seq3.mid 15 ?_
  simp only [List.drop_succ_cons, List.drop_zero]
  repeat (first | (refine Seq2.fl_row (by decide) ?_) | (refine Seq2.fl_skip (by kernel_rfl) (by kernel_rfl) ?_ ?_; (focus (go_simp; done)); (try simp only [Act.put, List.setIfInBounds_toArray, List.set_cons_zero, List.set_cons_succ])) | (refine Seq2.fl_val (by kernel_rfl) (by kernel_rfl) ?_ ?_; (focus (go_simp; done)); apply Exists.intro; refine ⟨fun w2 hw2 => ?_, ?_⟩; (focus (obtain ⟨hc, hf⟩ := bcell hw2; clear hw2; go_simp; (first | done | with_reducible rfl | (with_reducible exact eql2 _ _ _) | (with_reducible exact neq2 _ _ _)))); (try simp only [Act.put, List.setIfInBounds_toArray, List.set_cons_zero, List.set_cons_succ])))
  refine Seq2.fl_nil ?_
  refine Seq3.c3_one (by kernel_rfl) rfl ?_
  gi_wp2
  refine ⟨((((((((one_alloc _).trans (HB3.out.mono (by simp))).setCell (Nat.le_refl _) _).setCell (Nat.le_refl _) _).setCell (Nat.le_refl _) _).setCell (Nat.le_refl _) _).setCell (Nat.le_refl _) _).setCell (Nat.le_refl _) _), ?_⟩
  refine Seq3.none ?_
  refine Seq3.c3_nil (by kernel_rfl) ?_
  go_wp2
  exact bodyPost_ret (v := .agg #[.int .i64 ax, .int .i64 ay, .int .i64 x, .int .i64 y, .int .i64 dx, .int .i64 dy]) (by simp [results, Try.results141, go_sem, c0, c1, c2, c3, c4, c5]) rfl ⟨rfl, ((((((((one_alloc _).trans (HB3.out.mono (by simp))).setCell (Nat.le_refl _) _).setCell (Nat.le_refl _) _).setCell (Nat.le_refl _) _).setCell (Nat.le_refl _) _).setCell (Nat.le_refl _) _).setCell (Nat.le_refl _) _)⟩
end Go.Proofs.Ytjhmpmaademdcaa
