/- The bounds of points, of impl. -/
import Derived.Test.YtjhmpmaademdcaaPolyF3
namespace Go.Proofs.Ytjhmpmaademdcaa
open Go.ChangeShapes Go.WideShapes Go.ChangeAt Go.RowKit
set_option linter.unusedVariables false

/-- Two variables of a call that has begun in w. -/
structure B2 (w wr : World) (T : TypeId) (a0 a1 b0 b1 : Int) : Prop where
  below : Below w.heap.size w wr
  lo : wr.heap[w.heap.size]? = some (.cells #[.int .i64 a0, .int .i64 a1] T (0, 0))
  hi : wr.heap[w.heap.size + 1]? = some (.cells #[.int .i64 b0, .int .i64 b1] T (0, 0))
theorem B2.after {w wr w2 : World} {T : TypeId} {a0 a1 b0 b1 : Int} (h : B2 w wr T a0 a1 b0 b1) (hb : Below wr.heap.size wr w2) : B2 w w2 T a0 a1 b0 b1 :=
  ⟨bseq h.below hb, (hb.block _ (heap_lt h.lo)).trans h.lo, (hb.block _ (heap_lt h.hi)).trans h.hi⟩
theorem B2.setLo {w wr : World} {T : TypeId} {a0 a1 b0 b1 : Int} (h : B2 w wr T a0 a1 b0 b1) (x y : Int) : B2 w ((wr.setCell ⟨w.heap.size, 0, none⟩ (.int .i64 x)).setCell ⟨w.heap.size, 1, none⟩ (.int .i64 y)) T x y b0 b1 :=
  ⟨(h.below.setCell (Nat.le_refl _) _).setCell (Nat.le_refl _) _, by rw [heap_setCell_same _ _ 1 _ _ _ (heap_setCell_same _ _ 0 _ _ _ h.lo)]; simp, (other_block (by omega)).trans ((other_block (by omega)).trans h.hi)⟩
theorem B2.setHi {w wr : World} {T : TypeId} {a0 a1 b0 b1 : Int} (h : B2 w wr T a0 a1 b0 b1) (x y : Int) : B2 w ((wr.setCell ⟨w.heap.size + 1, 0, none⟩ (.int .i64 x)).setCell ⟨w.heap.size + 1, 1, none⟩ (.int .i64 y)) T a0 a1 x y :=
  ⟨(h.below.setCell (by show w.heap.size ≤ w.heap.size + 1; omega) _).setCell (by show w.heap.size ≤ w.heap.size + 1; omega) _, (other_block (by omega)).trans ((other_block (by omega)).trans h.lo), by rw [heap_setCell_same _ _ 1 _ _ _ (heap_setCell_same _ _ 0 _ _ _ h.hi)]; simp⟩
theorem two_new (w : World) (o1 o2 : Obj) : ((w.alloc o1).alloc o2).heap[w.heap.size]? = some o1 ∧ ((w.alloc o1).alloc o2).heap[w.heap.size + 1]? = some o2 := by
  have n0 := World.alloc_heap_new w o1
  have n1 := World.alloc_heap_new (w.alloc o1) o2
  simp only [World.size_alloc] at n1
  exact ⟨(Below.heap_alloc _ _ _ (by simp)).trans n0, n1⟩
set_option maxRecDepth 100000 in
set_option maxHeartbeats 4000000 in
theorem bounds_impl (b len cap : Nat) (zs : List P2) (w : World) (hz : len = zs.length) (h1 : 1 ≤ len) (hl : len ≤ 1000) (hp : PtsAt w b zs) :
    Calls Try.prog 106 #[.slice (some ⟨b, 0, none⟩) len cap] w (BndPost zs w) := by
  have HZ := Lib.hid hz
  have HP := Lib.hid hp
  have hbw := hp.1
  obtain ⟨x0, y0, e0, s0, s1⟩ := hp.pt (k := 0) (by omega)
  have HF : Hid ((minF (pX zs) 0 = x0 ∧ minF (pY zs) 0 = y0) ∧ (maxF (pX zs) 0 = x0 ∧ maxF (pY zs) 0 = y0)) := Lib.hid (by
    show (pX zs 0 = x0 ∧ pY zs 0 = y0) ∧ (pX zs 0 = x0 ∧ pY zs 0 = y0)
    unfold pX pY; rw [e0]; exact ⟨⟨rfl, rfl⟩, rfl, rfl⟩)
  simp only [Nat.zero_mul, Nat.zero_add] at s0 s1
  clear hz hp e0
  have h0 : 0 < len := by omega
  have h0' : (0 : Int) < len := by omega
  have ne0 : w.heap.size ≠ w.heap.size + 1 := by omega
  obtain ⟨m0, m1⟩ := two_new w (.cells #[.int .i64 0, .int .i64 0] 30) (.cells #[.int .i64 0, .int .i64 0] 30)
  have M := Lib.hid (And.intro m0 m1)
  clear m0 m1
  go_enter Try.func106, Try.ntmps106
  go_wp2
  refine wp_region_plan_env w [⟨99, w.heap.size, .cells #[.int .i64 (0), .int .i64 (0)] 30 (0, 0)⟩, ⟨98, w.heap.size + 1, .cells #[.int .i64 (0), .int .i64 (0)] 30 (0, 0)⟩] [.val 0 [] (.slice (some ⟨b, 0, none⟩) len cap), .val 1 [] (.pointer (some ⟨b, 0, none⟩)), .val 2 [] (.agg #[.int .i64 x0, .int .i64 y0]), .val 3 [] (.slice (some ⟨b, 0, none⟩) len cap), .val 4 [] (.pointer (some ⟨b, 0, none⟩)), .val 5 [] (.agg #[.int .i64 x0, .int .i64 y0]), .put 6 99 (.cells #[.int .i64 (x0), .int .i64 (y0)] 30 (0, 0)), .put 7 98 (.cells #[.int .i64 (x0), .int .i64 (y0)] 30 (0, 0))] (by kernel_rfl) (by kernel_rfl) rfl (by simp) (es_one _ (by simp <;> omega)) (two_allocs _ _) (by simp only [List.mem_cons, List.not_mem_nil, or_false]; rintro x (rfl | rfl); exact ⟨Nat.le_refl _, by simp; omega, M.out.1⟩; exact ⟨Nat.le_succ _, by simp, M.out.2⟩) ?_
  refine plan_val (by kernel_rfl) (by kernel_rfl) (by kernel_rfl) (by go_simp) (fun w1 hw1 => ?_) ?_
  · obtain ⟨hc, hf⟩ := bcell hw1; clear hw1; go_simp; (try with_reducible rfl)
  (try simp only [Act.put, List.setIfInBounds_toArray, List.set_cons_zero, List.set_cons_succ])
  refine plan_val (by kernel_rfl) (by kernel_rfl) (by kernel_rfl) (by go_simp) (fun w1 hw1 => ?_) ?_
  · obtain ⟨hc, hf⟩ := bcell hw1; clear hw1; go_simp; (try with_reducible rfl)
  (try simp only [Act.put, List.setIfInBounds_toArray, List.set_cons_zero, List.set_cons_succ])
  refine plan_val (by kernel_rfl) (by kernel_rfl) (by kernel_rfl) (by go_simp) (fun w1 hw1 => ?_) ?_
  · obtain ⟨hc, hf⟩ := bcell hw1; clear hw1; go_simp; (try with_reducible rfl)
  (try simp only [Act.put, List.setIfInBounds_toArray, List.set_cons_zero, List.set_cons_succ])
  refine plan_val (by kernel_rfl) (by kernel_rfl) (by kernel_rfl) (by go_simp) (fun w1 hw1 => ?_) ?_
  · obtain ⟨hc, hf⟩ := bcell hw1; clear hw1; go_simp; (try with_reducible rfl)
  (try simp only [Act.put, List.setIfInBounds_toArray, List.set_cons_zero, List.set_cons_succ])
  refine plan_val (by kernel_rfl) (by kernel_rfl) (by kernel_rfl) (by go_simp) (fun w1 hw1 => ?_) ?_
  · obtain ⟨hc, hf⟩ := bcell hw1; clear hw1; go_simp; (try with_reducible rfl)
  (try simp only [Act.put, List.setIfInBounds_toArray, List.set_cons_zero, List.set_cons_succ])
  refine plan_val (by kernel_rfl) (by kernel_rfl) (by kernel_rfl) (by go_simp) (fun w1 hw1 => ?_) ?_
  · obtain ⟨hc, hf⟩ := bcell hw1; clear hw1; go_simp; (try with_reducible rfl)
  (try simp only [Act.put, List.setIfInBounds_toArray, List.set_cons_zero, List.set_cons_succ])
  refine plan_put (p := w.heap.size) (by kernel_rfl) (by kernel_rfl) (by kernel_rfl) (by kernel_rfl) (by go_simp) (List.mem_cons_self ..) (fun w1 hg hh => ?_) ?_
  · obtain ⟨c0, f0, c1, f1⟩ := cells2_of hh
    refine ⟨_, ?_, stored2 hh⟩
    clear hh hg; go_simp; (try with_reducible rfl)
  (try simp only [Act.put])
  refine plan_put (p := w.heap.size + 1) (by kernel_rfl) (by kernel_rfl) (by kernel_rfl) (by kernel_rfl) (by go_simp) (Or.inl ⟨List.mem_cons_of_mem _ (List.mem_cons_self ..), (fun h => by cases h)⟩) (fun w1 hg hh => ?_) ?_
  · obtain ⟨c0, f0, c1, f1⟩ := cells2_of hh
    refine ⟨_, ?_, stored2 hh⟩
    clear hh hg; go_simp; (try with_reducible rfl)
  (try simp only [Act.put])
  refine plan_done (by kernel_rfl) (fun w2 hC => ?_)
  obtain ⟨_, s2, g0⟩ := hC.2 ⟨99, w.heap.size, .cells #[.int .i64 (x0), .int .i64 (y0)] 30 (0, 0)⟩ (Or.inl ⟨Or.inr ⟨⟨99, w.heap.size, _⟩, List.mem_cons_self .., rfl, rfl⟩, (fun h => by cases h)⟩)
  obtain ⟨_, s3, g1⟩ := hC.2 ⟨98, w.heap.size + 1, .cells #[.int .i64 (x0), .int .i64 (y0)] 30 (0, 0)⟩ (Or.inr ⟨⟨98, w.heap.size + 1, _⟩, Or.inl ⟨List.mem_cons_of_mem _ (List.mem_cons_self ..), (fun h => by cases h)⟩, rfl, rfl⟩)
  have HB2 : Hid (B2 w w2 30 (minF (pX zs) 0) (minF (pY zs) 0) (maxF (pX zs) 0) (maxF (pY zs) 0)) := Lib.hid (by
    rw [HF.out.1.1, HF.out.1.2, HF.out.2.1, HF.out.2.2]
    exact ⟨hC.1, g0, g1⟩)
  clear hC g0 g1
  go_wp2
  go_loopw [14] (fun iv wr => ∃ k : Nat, k ≤ len ∧ iv = .int .i64 k ∧ Hid (B2 w wr 30 (minF (pX zs) k) (minF (pY zs) k) (maxF (pX zs) k) (maxF (pY zs) k))) (fun i _ => len - (intOf i).toNat)
  case atStart => exact ⟨0, by omega, rfl, HB2⟩
  case round =>
    clear HB2
    obtain ⟨k, hk, rfl, HBB⟩ := hrel
    have hw0 := heap_lt HBB.out.lo
    have hw1 := heap_lt HBB.out.hi
    obtain ⟨p0, p1, p2, p3⟩ := cells2_of HBB.out.lo
    obtain ⟨p4, p5, p6, p7⟩ := cells2_of HBB.out.hi
    by_cases hlt : k < len
    · have hkz : k < zs.length := by have := HZ.out; omega
      have HQ := Lib.hid (HP.out.below HBB.out.below hbw)
      have hbr := HQ.out.1
      obtain ⟨x, y, e, c0, c1⟩ := HQ.out.pt hkz
      have HA := Lib.hid (show minF (pX zs) (k + 1) = min (minF (pX zs) k) x by show min _ (pX zs k) = _; unfold pX; rw [e])
      have HB := Lib.hid (show minF (pY zs) (k + 1) = min (minF (pY zs) k) y by show min _ (pY zs k) = _; unfold pY; rw [e])
      have HC := Lib.hid (show maxF (pX zs) (k + 1) = max (maxF (pX zs) k) x by show max _ (pX zs k) = _; unfold pX; rw [e])
      have HD := Lib.hid (show maxF (pY zs) (k + 1) = max (maxF (pY zs) k) y by show max _ (pY zs k) = _; unfold pY; rw [e])
      generalize minF (pX zs) k = a0 at *
      generalize minF (pY zs) k = a1 at *
      generalize maxF (pX zs) k = b0 at *
      generalize maxF (pY zs) k = b1 at *
      have n0 : w.heap.size ≠ wr.heap.size := by omega
      have n1 : w.heap.size + 1 ≠ wr.heap.size := by omega
      have n2 : wr.heap.size ≠ w.heap.size := by omega
      have n3 : wr.heap.size ≠ w.heap.size + 1 := by omega
      clear e
      go_wp2
      go_roundw
      case rel => exact ⟨k + 1, by omega, by go_num, Lib.hid (by rw [HA.out, HB.out, HC.out, HD.out]; exact ((HBB.out.setLo _ _).setHi _ _).after (one_alloc _))⟩
      case measure => simp [intOf]; omega
    · obtain rfl : k = len := by omega
      have HEQ : Hid (k = zs.length) := HZ
      go_wp2
      refine wp_region_plan_env w [⟨99, w.heap.size, .cells #[.int .i64 (minF (pX zs) k), .int .i64 (minF (pY zs) k)] 30 (0, 0)⟩, ⟨98, w.heap.size + 1, .cells #[.int .i64 (maxF (pX zs) k), .int .i64 (maxF (pY zs) k)] 30 (0, 0)⟩] [.val 0 [99] (.agg #[.int .i64 (minF (pX zs) k), .int .i64 (minF (pY zs) k)]), .val 1 [98] (.agg #[.int .i64 (maxF (pX zs) k), .int .i64 (maxF (pY zs) k)]), .put 2 99 (.cells #[.int .i64 (minF (pX zs) k), .int .i64 (minF (pY zs) k)] 30 (0, 0)), .put 3 98 (.cells #[.int .i64 (maxF (pX zs) k), .int .i64 (maxF (pY zs) k)] 30 (0, 0))] (by kernel_rfl) (by kernel_rfl) rfl (by simp) (es_one _ (by simp <;> omega)) HBB.out.below (by simp only [List.mem_cons, List.not_mem_nil, or_false]; rintro x (rfl | rfl); exact ⟨Nat.le_refl _, hw0, HBB.out.lo⟩; exact ⟨Nat.le_succ _, hw1, HBB.out.hi⟩) ?_
      refine plan_valu [99] (by kernel_rfl) (by kernel_rfl) (by kernel_rfl) (by kernel_rfl) (by go_simp) (fun w1 hC => ?_) ?_
      · obtain ⟨_, _, y3⟩ := hC.2 ⟨99, _, _⟩ ⟨List.mem_cons_self .., rfl⟩; obtain ⟨cc0, _, cc1, _⟩ := cells2_of y3; clear hC; go_simp; (try with_reducible rfl)
      (try simp only [Act.put, List.setIfInBounds_toArray, List.set_cons_zero, List.set_cons_succ])
      refine plan_valu [98] (by kernel_rfl) (by kernel_rfl) (by kernel_rfl) (by kernel_rfl) (by go_simp) (fun w1 hC => ?_) ?_
      · obtain ⟨_, _, y3⟩ := hC.2 ⟨98, _, _⟩ ⟨List.mem_cons_of_mem _ (List.mem_cons_self ..), rfl⟩; obtain ⟨cc0, _, cc1, _⟩ := cells2_of y3; clear hC; go_simp; (try with_reducible rfl)
      (try simp only [Act.put, List.setIfInBounds_toArray, List.set_cons_zero, List.set_cons_succ])
      refine plan_put (p := w.heap.size) (by kernel_rfl) (by kernel_rfl) (by kernel_rfl) (by kernel_rfl) (by go_simp) (List.mem_cons_self ..) (fun w1 hg hh => ?_) ?_
      · obtain ⟨c0, f0, c1, f1⟩ := cells2_of hh
        refine ⟨_, ?_, stored2 hh⟩
        clear hh hg; go_simp; (try with_reducible rfl)
      (try simp only [Act.put])
      refine plan_put (p := w.heap.size + 1) (by kernel_rfl) (by kernel_rfl) (by kernel_rfl) (by kernel_rfl) (by go_simp) (Or.inl ⟨List.mem_cons_of_mem _ (List.mem_cons_self ..), (fun h => by cases h)⟩) (fun w1 hg hh => ?_) ?_
      · obtain ⟨c0, f0, c1, f1⟩ := cells2_of hh
        refine ⟨_, ?_, stored2 hh⟩
        clear hh hg; go_simp; (try with_reducible rfl)
      (try simp only [Act.put])
      refine plan_done (by kernel_rfl) (fun w2 hC => ?_)
      obtain ⟨_, s2, g0⟩ := hC.2 ⟨99, w.heap.size, .cells #[.int .i64 (minF (pX zs) k), .int .i64 (minF (pY zs) k)] 30 (0, 0)⟩ (Or.inl ⟨Or.inr ⟨⟨99, w.heap.size, _⟩, List.mem_cons_self .., rfl, rfl⟩, (fun h => by cases h)⟩)
      obtain ⟨_, s3, g1⟩ := hC.2 ⟨98, w.heap.size + 1, .cells #[.int .i64 (maxF (pX zs) k), .int .i64 (maxF (pY zs) k)] 30 (0, 0)⟩ (Or.inr ⟨⟨98, w.heap.size + 1, _⟩, Or.inl ⟨List.mem_cons_of_mem _ (List.mem_cons_self ..), (fun h => by cases h)⟩, rfl, rfl⟩)
      obtain ⟨q0, _, q1, _⟩ := cells2_of g0
      obtain ⟨q2, _, q3, _⟩ := cells2_of g1
      have HF2 := Lib.hid hC.1
      clear hC g0 g1 p0 p1 p2 p3 p4 p5 p6 p7
      go_wp2
      exact bodyPost_ret (v := .tuple #[.agg #[.int .i64 (minF (pX zs) k), .int .i64 (minF (pY zs) k)], .agg #[.int .i64 (maxF (pX zs) k), .int .i64 (maxF (pY zs) k)]]) (by simp [results, Try.results106, go_sem, q0, q1, q2, q3]) rfl ⟨by rw [← HEQ.out], HF2.out⟩
end Go.Proofs.Ytjhmpmaademdcaa
