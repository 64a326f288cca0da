/- The bounds of points. -/
import Derived.Test.YtjhmpmaademdcaaPolyF2
namespace Go.Proofs.Ytjhmpmaademdcaa
open Go.ChangeShapes Go.WideShapes Go.ChangeAt Go.RowKit
set_option linter.unusedVariables false

def minF (f : Nat → Int) : Nat → Int
  | 0 => f 0
  | k + 1 => min (minF f k) (f k)
def maxF (f : Nat → Int) : Nat → Int
  | 0 => f 0
  | k + 1 => max (maxF f k) (f k)
def pX (zs : List P2) (k : Nat) : Int := (zs.getD k (0, 0)).1
def pY (zs : List P2) (k : Nat) : Int := (zs.getD k (0, 0)).2
theorem minF_one (f : Nat → Int) : minF f 1 = f 0 := by show min (f 0) (f 0) = f 0; omega
theorem maxF_one (f : Nat → Int) : maxF f 1 = f 0 := by show max (f 0) (f 0) = f 0; omega
/-- Two results and two variables of a call that has begun in w: blocks of two numbers each. -/
structure BB (w wr : World) (T : TypeId) (a0 a1 b0 b1 : Int) : Prop where
  below : Below w.heap.size w wr
  r0 : wr.heap[w.heap.size]? = some (.cells #[.int .i64 0, .int .i64 0] T (0, 0))
  r1 : wr.heap[w.heap.size + 1]? = some (.cells #[.int .i64 0, .int .i64 0] T (0, 0))
  lo : wr.heap[w.heap.size + 1 + 1]? = some (.cells #[.int .i64 a0, .int .i64 a1] T (0, 0))
  hi : wr.heap[w.heap.size + 1 + 1 + 1]? = some (.cells #[.int .i64 b0, .int .i64 b1] T (0, 0))
theorem heap_lt {w : World} {b : Nat} {o : Obj} (h : w.heap[b]? = some o) : b < w.heap.size := (Array.getElem?_eq_some_iff.1 h).1
theorem BB.after {w wr w2 : World} {T : TypeId} {a0 a1 b0 b1 : Int} (h : BB w wr T a0 a1 b0 b1) (hb : Below wr.heap.size wr w2) : BB w w2 T a0 a1 b0 b1 :=
  ⟨bseq h.below hb, (hb.block _ (heap_lt h.r0)).trans h.r0, (hb.block _ (heap_lt h.r1)).trans h.r1, (hb.block _ (heap_lt h.lo)).trans h.lo, (hb.block _ (heap_lt h.hi)).trans h.hi⟩
theorem other_block {w : World} {b c off : Nat} {v : Value} (h : c ≠ b) : (w.setCell ⟨b, off, none⟩ v).heap[c]? = w.heap[c]? := Below.heap_setCell _ _ _ _ h
theorem BB.lo0 {w wr : World} {T : TypeId} {a0 a1 b0 b1 : Int} (h : BB w wr T a0 a1 b0 b1) (x : Int) : BB w (wr.setCell ⟨w.heap.size + 1 + 1, 0, none⟩ (.int .i64 x)) T x a1 b0 b1 :=
  ⟨h.below.setCell (by show w.heap.size ≤ w.heap.size + 1 + 1; omega) _, (other_block (by omega)).trans h.r0, (other_block (by omega)).trans h.r1, by rw [heap_setCell_same _ _ 0 _ _ _ h.lo]; simp, (other_block (by omega)).trans h.hi⟩
theorem BB.lo1 {w wr : World} {T : TypeId} {a0 a1 b0 b1 : Int} (h : BB w wr T a0 a1 b0 b1) (x : Int) : BB w (wr.setCell ⟨w.heap.size + 1 + 1, 1, none⟩ (.int .i64 x)) T a0 x b0 b1 :=
  ⟨h.below.setCell (by show w.heap.size ≤ w.heap.size + 1 + 1; omega) _, (other_block (by omega)).trans h.r0, (other_block (by omega)).trans h.r1, by rw [heap_setCell_same _ _ 1 _ _ _ h.lo]; simp, (other_block (by omega)).trans h.hi⟩
theorem BB.hi0 {w wr : World} {T : TypeId} {a0 a1 b0 b1 : Int} (h : BB w wr T a0 a1 b0 b1) (x : Int) : BB w (wr.setCell ⟨w.heap.size + 1 + 1 + 1, 0, none⟩ (.int .i64 x)) T a0 a1 x b1 :=
  ⟨h.below.setCell (by show w.heap.size ≤ w.heap.size + 1 + 1 + 1; omega) _, (other_block (by omega)).trans h.r0, (other_block (by omega)).trans h.r1, (other_block (by omega)).trans h.lo, by rw [heap_setCell_same _ _ 0 _ _ _ h.hi]; simp⟩
theorem BB.hi1 {w wr : World} {T : TypeId} {a0 a1 b0 b1 : Int} (h : BB w wr T a0 a1 b0 b1) (x : Int) : BB w (wr.setCell ⟨w.heap.size + 1 + 1 + 1, 1, none⟩ (.int .i64 x)) T a0 a1 b0 x :=
  ⟨h.below.setCell (by show w.heap.size ≤ w.heap.size + 1 + 1 + 1; omega) _, (other_block (by omega)).trans h.r0, (other_block (by omega)).trans h.r1, (other_block (by omega)).trans h.lo, by rw [heap_setCell_same _ _ 1 _ _ _ h.hi]; simp⟩
theorem BB.cells {w wr : World} {T : TypeId} {a0 a1 b0 b1 : Int} (h : BB w wr T a0 a1 b0 b1) :
    (wr.cell? ⟨w.heap.size + 1 + 1, 0, none⟩ = some (.int .i64 a0) ∧ wr.frozen? ⟨w.heap.size + 1 + 1, 0, none⟩ = false ∧ wr.cell? ⟨w.heap.size + 1 + 1, 1, none⟩ = some (.int .i64 a1) ∧ wr.frozen? ⟨w.heap.size + 1 + 1, 1, none⟩ = false) ∧
    (wr.cell? ⟨w.heap.size + 1 + 1 + 1, 0, none⟩ = some (.int .i64 b0) ∧ wr.frozen? ⟨w.heap.size + 1 + 1 + 1, 0, none⟩ = false ∧ wr.cell? ⟨w.heap.size + 1 + 1 + 1, 1, none⟩ = some (.int .i64 b1) ∧ wr.frozen? ⟨w.heap.size + 1 + 1 + 1, 1, none⟩ = false) ∧ w.heap.size + 1 + 1 < wr.heap.size ∧ w.heap.size + 1 + 1 + 1 < wr.heap.size :=
  ⟨cells2_of h.lo, cells2_of h.hi, heap_lt h.lo, heap_lt h.hi⟩
theorem BB.start (w : World) (T : TypeId) (a0 a1 b0 b1 : Int) : BB w ((((w.alloc (.cells #[.int .i64 0, .int .i64 0] T)).alloc (.cells #[.int .i64 0, .int .i64 0] T)).alloc (.cells #[.int .i64 a0, .int .i64 a1] T)).alloc (.cells #[.int .i64 b0, .int .i64 b1] T)) T a0 a1 b0 b1 := by
  have n0 := World.alloc_heap_new w (.cells #[.int .i64 0, .int .i64 0] T)
  have n1 := World.alloc_heap_new (w.alloc (.cells #[.int .i64 0, .int .i64 0] T)) (.cells #[.int .i64 0, .int .i64 0] T)
  have n2 := World.alloc_heap_new ((w.alloc (.cells #[.int .i64 0, .int .i64 0] T)).alloc (.cells #[.int .i64 0, .int .i64 0] T)) (.cells #[.int .i64 a0, .int .i64 a1] T)
  have n3 := World.alloc_heap_new (((w.alloc (.cells #[.int .i64 0, .int .i64 0] T)).alloc (.cells #[.int .i64 0, .int .i64 0] T)).alloc (.cells #[.int .i64 a0, .int .i64 a1] T)) (.cells #[.int .i64 b0, .int .i64 b1] T)
  simp only [World.size_alloc] at n1 n2 n3
  exact ⟨four_allocs _ _ _ _, (Below.heap_alloc _ _ _ (by simp; omega)).trans ((Below.heap_alloc _ _ _ (by simp; omega)).trans ((Below.heap_alloc _ _ _ (by simp)).trans n0)),
    (Below.heap_alloc _ _ _ (by simp <;> omega)).trans ((Below.heap_alloc _ _ _ (by simp)).trans n1), (Below.heap_alloc _ _ _ (by simp)).trans n2, n3⟩
theorem es_one : ∀ (es : List Made), es.Pairwise (fun x y => x.key ≠ y.key ∧ x.blk ≠ y.blk) → ∀ x y, x ∈ es → y ∈ es → (x.key = y.key ∨ x.blk = y.blk) → x = y
  | [], _, _, _, h, _, _ => by cases h
  | e :: es, hp, x, y, hx, hy, h => by
    obtain ⟨h1, h2⟩ := List.pairwise_cons.1 hp
    rcases List.mem_cons.1 hx with e1 | hx' <;> rcases List.mem_cons.1 hy with e2 | hy'
    · rw [e1, e2]
    · subst e1; exact absurd h (by have := h1 y hy'; omega)
    · subst e2; exact absurd h (by have := h1 x hx'; omega)
    · exact es_one es h2 x y hx' hy' h
def BndPost (zs : List P2) (w : World) (e : Ending) (w' : World) : Prop := e = .returned (.tuple #[.agg #[.int .i64 (minF (pX zs) zs.length), .int .i64 (minF (pY zs) zs.length)], .agg #[.int .i64 (maxF (pX zs) zs.length), .int .i64 (maxF (pY zs) zs.length)]]) ∧ Below w.heap.size w w'
set_option maxRecDepth 100000 in
set_option maxHeartbeats 4000000 in
theorem bounds_spec (b len cap : Nat) (zs : List P2) (w : World) (hz : len = zs.length) (h1 : 1 ≤ len) (hl : len ≤ 1000) (hp : PtsAt w b zs) :
    Calls Try.prog 193 #[.slice (some ⟨b, 0, none⟩) len cap] w (BndPost zs w) := by
  have HZ := Lib.hid hz
  have HP := Lib.hid hp
  have hbw := hp.1
  obtain ⟨x0, y0, e0, s0, s1⟩ := hp.pt (k := 0) (by omega)
  have HF : Hid ((minF (pX zs) 1 = x0 ∧ minF (pY zs) 1 = y0) ∧ (maxF (pX zs) 1 = x0 ∧ maxF (pY zs) 1 = y0)) := Lib.hid (by rw [minF_one, minF_one, maxF_one, maxF_one]; unfold pX pY; rw [e0]; exact ⟨⟨rfl, rfl⟩, rfl, rfl⟩)
  simp only [Nat.zero_mul, Nat.zero_add] at s0 s1
  clear hz hp e0
  have h0 : 0 < len := by omega
  have hb1 : b < w.heap.size + 1 := by omega
  have hb2 : b < w.heap.size + 1 + 1 := by omega
  have hb3 : b < w.heap.size + 1 + 1 + 1 := by omega
  go_enter Try.func193, Try.ntmps193
  go_wp2
  go_loopw [6] (fun iv wr => ∃ k : Nat, 1 ≤ k ∧ k ≤ len ∧ iv = .int .i64 k ∧ Hid (BB w wr 30 (minF (pX zs) k) (minF (pY zs) k) (maxF (pX zs) k) (maxF (pY zs) k))) (fun i _ => len - (intOf i).toNat)
  case atStart => exact ⟨1, by omega, by omega, rfl, Lib.hid (by
    rw [HF.out.1.1, HF.out.1.2, HF.out.2.1, HF.out.2.2]
    exact BB.start _ _ _ _ _ _)⟩
  case round =>
    obtain ⟨k, hk1, hk, rfl, HBB⟩ := hrel
    by_cases hlt : k < len
    · have hkz : k < zs.length := by have := HZ.out; omega
      have HQ := Lib.hid (HP.out.below HBB.out.below hbw)
      obtain ⟨x, y, e, c0, c1⟩ := HQ.out.pt hkz
      have HA := Lib.hid (show minF (pX zs) (k + 1) = min (minF (pX zs) k) x by show min _ (pX zs k) = _; unfold pX; rw [e])
      have HB := Lib.hid (show minF (pY zs) (k + 1) = min (minF (pY zs) k) y by show min _ (pY zs k) = _; unfold pY; rw [e])
      have HC := Lib.hid (show maxF (pX zs) (k + 1) = max (maxF (pX zs) k) x by show max _ (pX zs k) = _; unfold pX; rw [e])
      have HD := Lib.hid (show maxF (pY zs) (k + 1) = max (maxF (pY zs) k) y by show max _ (pY zs k) = _; unfold pY; rw [e])
      have E := Lib.hid e
      generalize minF (pX zs) k = a0 at *
      generalize minF (pY zs) k = a1 at *
      generalize maxF (pX zs) k = b0 at *
      generalize maxF (pY zs) k = b1 at *
      clear e
      obtain ⟨hc0, hc1, hsz2, hsz⟩ := HBB.out.cells
      obtain ⟨p0, p1, p2, p3⟩ := hc0
      obtain ⟨p4, p5, p6, p7⟩ := hc1
      have hbr := HQ.out.1
      go_wp2
      refine wp_region_plan_tail 1 [9] [.val 0 [] (.pointer (some ⟨w.heap.size + 1 + 1, 0, none⟩)), .val 1 [] (.int .i64 a0), .val 2 [] (.slice (some ⟨b, 0, none⟩) len cap), .val 3 [] (.int .i64 k), .val 4 [] (.pointer (some ⟨b, k * 2, none⟩)), .val 5 [] (.pointer (some ⟨b, k * 2, none⟩)), .val 6 [] (.int .i64 x), .val 7 [] (.int .i64 (min a0 x)), .val 8 [] (.pointer (some ⟨w.heap.size + 1 + 1, 0, none⟩))] (by kernel_rfl) (by kernel_rfl) rfl ?_
      refine plan_val (by kernel_rfl) (by kernel_rfl) (by kernel_rfl) (by go_simp) (fun w1 hw1 => ?_) ?_
      · obtain ⟨hc, hf⟩ := bcell hw1; clear hw1; go_simp; (try with_reducible rfl)
      (try simp only [Act.put, List.setIfInBounds_toArray, List.set_cons_zero, List.set_cons_succ])
      refine plan_val (by kernel_rfl) (by kernel_rfl) (by kernel_rfl) (by go_simp) (fun w1 hw1 => ?_) ?_
      · obtain ⟨hc, hf⟩ := bcell hw1; clear hw1; go_simp; (try with_reducible rfl)
      (try simp only [Act.put, List.setIfInBounds_toArray, List.set_cons_zero, List.set_cons_succ])
      refine plan_val (by kernel_rfl) (by kernel_rfl) (by kernel_rfl) (by go_simp) (fun w1 hw1 => ?_) ?_
      · obtain ⟨hc, hf⟩ := bcell hw1; clear hw1; go_simp; (try with_reducible rfl)
      (try simp only [Act.put, List.setIfInBounds_toArray, List.set_cons_zero, List.set_cons_succ])
      refine plan_val (by kernel_rfl) (by kernel_rfl) (by kernel_rfl) (by go_simp) (fun w1 hw1 => ?_) ?_
      · obtain ⟨hc, hf⟩ := bcell hw1; clear hw1; go_simp; (try with_reducible rfl)
      (try simp only [Act.put, List.setIfInBounds_toArray, List.set_cons_zero, List.set_cons_succ])
      refine plan_val (by kernel_rfl) (by kernel_rfl) (by kernel_rfl) (by go_simp) (fun w1 hw1 => ?_) ?_
      · obtain ⟨hc, hf⟩ := bcell hw1; clear hw1; go_simp; (try with_reducible rfl)
      (try simp only [Act.put, List.setIfInBounds_toArray, List.set_cons_zero, List.set_cons_succ])
      refine plan_val (by kernel_rfl) (by kernel_rfl) (by kernel_rfl) (by go_simp) (fun w1 hw1 => ?_) ?_
      · obtain ⟨hc, hf⟩ := bcell hw1; clear hw1; go_simp; (try with_reducible rfl)
      (try simp only [Act.put, List.setIfInBounds_toArray, List.set_cons_zero, List.set_cons_succ])
      refine plan_val (by kernel_rfl) (by kernel_rfl) (by kernel_rfl) (by go_simp) (fun w1 hw1 => ?_) ?_
      · obtain ⟨hc, hf⟩ := bcell hw1; clear hw1; go_simp; (try with_reducible rfl)
      (try simp only [Act.put, List.setIfInBounds_toArray, List.set_cons_zero, List.set_cons_succ])
      refine plan_call [] 179 #[.int .i64 a0, .int .i64 x] (by kernel_rfl) (by kernel_rfl) (by kernel_rfl) (by kernel_rfl) (by go_simp) (fun w1 hw1 => ?_) (fun w1 hC => ?_) ?_
      · clear hw1; go_simp; (try with_reducible rfl)
      · exact (min_spec _ _ _).mono (fun e w2 h => ⟨h.1, h.2 ▸ Below.refl _ _⟩)
      (try simp only [Act.put, List.setIfInBounds_toArray, List.set_cons_zero, List.set_cons_succ])
      refine plan_val (by kernel_rfl) (by kernel_rfl) (by kernel_rfl) (by go_simp) (fun w1 hw1 => ?_) ?_
      · obtain ⟨hc, hf⟩ := bcell hw1; clear hw1; go_simp; (try with_reducible rfl)
      (try simp only [Act.put, List.setIfInBounds_toArray, List.set_cons_zero, List.set_cons_succ])
      refine plan_tail_w (by kernel_rfl) (by kernel_rfl) rfl (fun w2 hC => ?_)
      replace HQ := Lib.hid (HQ.out.below hC.1 HQ.out.1)
      replace HBB := Lib.hid (HBB.out.after hC.1)
      clear hC p0 p1 p2 p3 p4 p5 p6 p7 c0 c1 hsz hsz2 hbr
      obtain ⟨hc0, hc1, hsz2, hsz⟩ := HBB.out.cells
      obtain ⟨p0, p1, p2, p3⟩ := hc0
      obtain ⟨p4, p5, p6, p7⟩ := hc1
      gi_wp2
      clear p0 p1 p2 p3 p4 p5 p6 p7 hsz hsz2
      replace HBB := Lib.hid (HBB.out.lo0 (min a0 x))
      replace HQ := Lib.hid (HQ.out.below ((Below.refl w.heap.size w2).setCell (p := ⟨w.heap.size + 1 + 1, 0, none⟩) (by show w.heap.size ≤ w.heap.size + 1 + 1; omega) (.int .i64 (min a0 x))) hbw)
      generalize w2.setCell ⟨w.heap.size + 1 + 1, 0, none⟩ (.int .i64 (min a0 x)) = v2 at *
      obtain ⟨hc0, hc1, hsz2, hsz⟩ := HBB.out.cells
      obtain ⟨p0, p1, p2, p3⟩ := hc0
      obtain ⟨p4, p5, p6, p7⟩ := hc1
      obtain ⟨xx, yy, e, c0, c1⟩ := HQ.out.pt hkz
      rw [E.out] at e
      cases e
      have hbr := HQ.out.1
      go_wp2
      refine wp_region_plan_tail 1 [9] [.val 0 [] (.pointer (some ⟨w.heap.size + 1 + 1, 1, none⟩)), .val 1 [] (.int .i64 a1), .val 2 [] (.slice (some ⟨b, 0, none⟩) len cap), .val 3 [] (.int .i64 k), .val 4 [] (.pointer (some ⟨b, k * 2, none⟩)), .val 5 [] (.pointer (some ⟨b, k * 2 + 1, none⟩)), .val 6 [] (.int .i64 y), .val 7 [] (.int .i64 (min a1 y)), .val 8 [] (.pointer (some ⟨w.heap.size + 1 + 1, 1, none⟩))] (by kernel_rfl) (by kernel_rfl) rfl ?_
      refine plan_val (by kernel_rfl) (by kernel_rfl) (by kernel_rfl) (by go_simp) (fun w1 hw1 => ?_) ?_
      · obtain ⟨hc, hf⟩ := bcell hw1; clear hw1; go_simp; (try with_reducible rfl)
      (try simp only [Act.put, List.setIfInBounds_toArray, List.set_cons_zero, List.set_cons_succ])
      refine plan_val (by kernel_rfl) (by kernel_rfl) (by kernel_rfl) (by go_simp) (fun w1 hw1 => ?_) ?_
      · obtain ⟨hc, hf⟩ := bcell hw1; clear hw1; go_simp; (try with_reducible rfl)
      (try simp only [Act.put, List.setIfInBounds_toArray, List.set_cons_zero, List.set_cons_succ])
      refine plan_val (by kernel_rfl) (by kernel_rfl) (by kernel_rfl) (by go_simp) (fun w1 hw1 => ?_) ?_
      · obtain ⟨hc, hf⟩ := bcell hw1; clear hw1; go_simp; (try with_reducible rfl)
      (try simp only [Act.put, List.setIfInBounds_toArray, List.set_cons_zero, List.set_cons_succ])
      refine plan_val (by kernel_rfl) (by kernel_rfl) (by kernel_rfl) (by go_simp) (fun w1 hw1 => ?_) ?_
      · obtain ⟨hc, hf⟩ := bcell hw1; clear hw1; go_simp; (try with_reducible rfl)
      (try simp only [Act.put, List.setIfInBounds_toArray, List.set_cons_zero, List.set_cons_succ])
      refine plan_val (by kernel_rfl) (by kernel_rfl) (by kernel_rfl) (by go_simp) (fun w1 hw1 => ?_) ?_
      · obtain ⟨hc, hf⟩ := bcell hw1; clear hw1; go_simp; (try with_reducible rfl)
      (try simp only [Act.put, List.setIfInBounds_toArray, List.set_cons_zero, List.set_cons_succ])
      refine plan_val (by kernel_rfl) (by kernel_rfl) (by kernel_rfl) (by go_simp) (fun w1 hw1 => ?_) ?_
      · obtain ⟨hc, hf⟩ := bcell hw1; clear hw1; go_simp; (try with_reducible rfl)
      (try simp only [Act.put, List.setIfInBounds_toArray, List.set_cons_zero, List.set_cons_succ])
      refine plan_val (by kernel_rfl) (by kernel_rfl) (by kernel_rfl) (by go_simp) (fun w1 hw1 => ?_) ?_
      · obtain ⟨hc, hf⟩ := bcell hw1; clear hw1; go_simp; (try with_reducible rfl)
      (try simp only [Act.put, List.setIfInBounds_toArray, List.set_cons_zero, List.set_cons_succ])
      refine plan_call [] 179 #[.int .i64 a1, .int .i64 y] (by kernel_rfl) (by kernel_rfl) (by kernel_rfl) (by kernel_rfl) (by go_simp) (fun w1 hw1 => ?_) (fun w1 hC => ?_) ?_
      · clear hw1; go_simp; (try with_reducible rfl)
      · exact (min_spec _ _ _).mono (fun e w2 h => ⟨h.1, h.2 ▸ Below.refl _ _⟩)
      (try simp only [Act.put, List.setIfInBounds_toArray, List.set_cons_zero, List.set_cons_succ])
      refine plan_val (by kernel_rfl) (by kernel_rfl) (by kernel_rfl) (by go_simp) (fun w1 hw1 => ?_) ?_
      · obtain ⟨hc, hf⟩ := bcell hw1; clear hw1; go_simp; (try with_reducible rfl)
      (try simp only [Act.put, List.setIfInBounds_toArray, List.set_cons_zero, List.set_cons_succ])
      refine plan_tail_w (by kernel_rfl) (by kernel_rfl) rfl (fun w3 hC => ?_)
      replace HQ := Lib.hid (HQ.out.below hC.1 HQ.out.1)
      replace HBB := Lib.hid (HBB.out.after hC.1)
      clear hC p0 p1 p2 p3 p4 p5 p6 p7 c0 c1 hsz hsz2 hbr
      obtain ⟨hc0, hc1, hsz2, hsz⟩ := HBB.out.cells
      obtain ⟨p0, p1, p2, p3⟩ := hc0
      obtain ⟨p4, p5, p6, p7⟩ := hc1
      gi_wp2
      clear p0 p1 p2 p3 p4 p5 p6 p7 hsz hsz2
      replace HBB := Lib.hid (HBB.out.lo1 (min a1 y))
      replace HQ := Lib.hid (HQ.out.below ((Below.refl w.heap.size w3).setCell (p := ⟨w.heap.size + 1 + 1, 1, none⟩) (by show w.heap.size ≤ w.heap.size + 1 + 1; omega) (.int .i64 (min a1 y))) hbw)
      generalize w3.setCell ⟨w.heap.size + 1 + 1, 1, none⟩ (.int .i64 (min a1 y)) = v3 at *
      obtain ⟨hc0, hc1, hsz2, hsz⟩ := HBB.out.cells
      obtain ⟨p0, p1, p2, p3⟩ := hc0
      obtain ⟨p4, p5, p6, p7⟩ := hc1
      obtain ⟨xx, yy, e, c0, c1⟩ := HQ.out.pt hkz
      rw [E.out] at e
      cases e
      have hbr := HQ.out.1
      go_wp2
      refine wp_region_plan_tail 1 [9] [.val 0 [] (.pointer (some ⟨w.heap.size + 1 + 1 + 1, 0, none⟩)), .val 1 [] (.int .i64 b0), .val 2 [] (.slice (some ⟨b, 0, none⟩) len cap), .val 3 [] (.int .i64 k), .val 4 [] (.pointer (some ⟨b, k * 2, none⟩)), .val 5 [] (.pointer (some ⟨b, k * 2, none⟩)), .val 6 [] (.int .i64 x), .val 7 [] (.int .i64 (max b0 x)), .val 8 [] (.pointer (some ⟨w.heap.size + 1 + 1 + 1, 0, none⟩))] (by kernel_rfl) (by kernel_rfl) rfl ?_
      refine plan_val (by kernel_rfl) (by kernel_rfl) (by kernel_rfl) (by go_simp) (fun w1 hw1 => ?_) ?_
      · obtain ⟨hc, hf⟩ := bcell hw1; clear hw1; go_simp; (try with_reducible rfl)
      (try simp only [Act.put, List.setIfInBounds_toArray, List.set_cons_zero, List.set_cons_succ])
      refine plan_val (by kernel_rfl) (by kernel_rfl) (by kernel_rfl) (by go_simp) (fun w1 hw1 => ?_) ?_
      · obtain ⟨hc, hf⟩ := bcell hw1; clear hw1; go_simp; (try with_reducible rfl)
      (try simp only [Act.put, List.setIfInBounds_toArray, List.set_cons_zero, List.set_cons_succ])
      refine plan_val (by kernel_rfl) (by kernel_rfl) (by kernel_rfl) (by go_simp) (fun w1 hw1 => ?_) ?_
      · obtain ⟨hc, hf⟩ := bcell hw1; clear hw1; go_simp; (try with_reducible rfl)
      (try simp only [Act.put, List.setIfInBounds_toArray, List.set_cons_zero, List.set_cons_succ])
      refine plan_val (by kernel_rfl) (by kernel_rfl) (by kernel_rfl) (by go_simp) (fun w1 hw1 => ?_) ?_
      · obtain ⟨hc, hf⟩ := bcell hw1; clear hw1; go_simp; (try with_reducible rfl)
      (try simp only [Act.put, List.setIfInBounds_toArray, List.set_cons_zero, List.set_cons_succ])
      refine plan_val (by kernel_rfl) (by kernel_rfl) (by kernel_rfl) (by go_simp) (fun w1 hw1 => ?_) ?_
      · obtain ⟨hc, hf⟩ := bcell hw1; clear hw1; go_simp; (try with_reducible rfl)
      (try simp only [Act.put, List.setIfInBounds_toArray, List.set_cons_zero, List.set_cons_succ])
      refine plan_val (by kernel_rfl) (by kernel_rfl) (by kernel_rfl) (by go_simp) (fun w1 hw1 => ?_) ?_
      · obtain ⟨hc, hf⟩ := bcell hw1; clear hw1; go_simp; (try with_reducible rfl)
      (try simp only [Act.put, List.setIfInBounds_toArray, List.set_cons_zero, List.set_cons_succ])
      refine plan_val (by kernel_rfl) (by kernel_rfl) (by kernel_rfl) (by go_simp) (fun w1 hw1 => ?_) ?_
      · obtain ⟨hc, hf⟩ := bcell hw1; clear hw1; go_simp; (try with_reducible rfl)
      (try simp only [Act.put, List.setIfInBounds_toArray, List.set_cons_zero, List.set_cons_succ])
      refine plan_call [] 180 #[.int .i64 b0, .int .i64 x] (by kernel_rfl) (by kernel_rfl) (by kernel_rfl) (by kernel_rfl) (by go_simp) (fun w1 hw1 => ?_) (fun w1 hC => ?_) ?_
      · clear hw1; go_simp; (try with_reducible rfl)
      · exact (max_spec _ _ _).mono (fun e w2 h => ⟨h.1, h.2 ▸ Below.refl _ _⟩)
      (try simp only [Act.put, List.setIfInBounds_toArray, List.set_cons_zero, List.set_cons_succ])
      refine plan_val (by kernel_rfl) (by kernel_rfl) (by kernel_rfl) (by go_simp) (fun w1 hw1 => ?_) ?_
      · obtain ⟨hc, hf⟩ := bcell hw1; clear hw1; go_simp; (try with_reducible rfl)
      (try simp only [Act.put, List.setIfInBounds_toArray, List.set_cons_zero, List.set_cons_succ])
      refine plan_tail_w (by kernel_rfl) (by kernel_rfl) rfl (fun w4 hC => ?_)
      replace HQ := Lib.hid (HQ.out.below hC.1 HQ.out.1)
      replace HBB := Lib.hid (HBB.out.after hC.1)
      clear hC p0 p1 p2 p3 p4 p5 p6 p7 c0 c1 hsz hsz2 hbr
      obtain ⟨hc0, hc1, hsz2, hsz⟩ := HBB.out.cells
      obtain ⟨p0, p1, p2, p3⟩ := hc0
      obtain ⟨p4, p5, p6, p7⟩ := hc1
      gi_wp2
      clear p0 p1 p2 p3 p4 p5 p6 p7 hsz hsz2
      replace HBB := Lib.hid (HBB.out.hi0 (max b0 x))
      replace HQ := Lib.hid (HQ.out.below ((Below.refl w.heap.size w4).setCell (p := ⟨w.heap.size + 1 + 1 + 1, 0, none⟩) (by show w.heap.size ≤ w.heap.size + 1 + 1 + 1; omega) (.int .i64 (max b0 x))) hbw)
      generalize w4.setCell ⟨w.heap.size + 1 + 1 + 1, 0, none⟩ (.int .i64 (max b0 x)) = v4 at *
      obtain ⟨hc0, hc1, hsz2, hsz⟩ := HBB.out.cells
      obtain ⟨p0, p1, p2, p3⟩ := hc0
      obtain ⟨p4, p5, p6, p7⟩ := hc1
      obtain ⟨xx, yy, e, c0, c1⟩ := HQ.out.pt hkz
      rw [E.out] at e
      cases e
      have hbr := HQ.out.1
      go_wp2
      refine wp_region_plan_tail 1 [9] [.val 0 [] (.pointer (some ⟨w.heap.size + 1 + 1 + 1, 1, none⟩)), .val 1 [] (.int .i64 b1), .val 2 [] (.slice (some ⟨b, 0, none⟩) len cap), .val 3 [] (.int .i64 k), .val 4 [] (.pointer (some ⟨b, k * 2, none⟩)), .val 5 [] (.pointer (some ⟨b, k * 2 + 1, none⟩)), .val 6 [] (.int .i64 y), .val 7 [] (.int .i64 (max b1 y)), .val 8 [] (.pointer (some ⟨w.heap.size + 1 + 1 + 1, 1, none⟩))] (by kernel_rfl) (by kernel_rfl) rfl ?_
      refine plan_val (by kernel_rfl) (by kernel_rfl) (by kernel_rfl) (by go_simp) (fun w1 hw1 => ?_) ?_
      · obtain ⟨hc, hf⟩ := bcell hw1; clear hw1; go_simp; (try with_reducible rfl)
      (try simp only [Act.put, List.setIfInBounds_toArray, List.set_cons_zero, List.set_cons_succ])
      refine plan_val (by kernel_rfl) (by kernel_rfl) (by kernel_rfl) (by go_simp) (fun w1 hw1 => ?_) ?_
      · obtain ⟨hc, hf⟩ := bcell hw1; clear hw1; go_simp; (try with_reducible rfl)
      (try simp only [Act.put, List.setIfInBounds_toArray, List.set_cons_zero, List.set_cons_succ])
      refine plan_val (by kernel_rfl) (by kernel_rfl) (by kernel_rfl) (by go_simp) (fun w1 hw1 => ?_) ?_
      · obtain ⟨hc, hf⟩ := bcell hw1; clear hw1; go_simp; (try with_reducible rfl)
      (try simp only [Act.put, List.setIfInBounds_toArray, List.set_cons_zero, List.set_cons_succ])
      refine plan_val (by kernel_rfl) (by kernel_rfl) (by kernel_rfl) (by go_simp) (fun w1 hw1 => ?_) ?_
      · obtain ⟨hc, hf⟩ := bcell hw1; clear hw1; go_simp; (try with_reducible rfl)
      (try simp only [Act.put, List.setIfInBounds_toArray, List.set_cons_zero, List.set_cons_succ])
      refine plan_val (by kernel_rfl) (by kernel_rfl) (by kernel_rfl) (by go_simp) (fun w1 hw1 => ?_) ?_
      · obtain ⟨hc, hf⟩ := bcell hw1; clear hw1; go_simp; (try with_reducible rfl)
      (try simp only [Act.put, List.setIfInBounds_toArray, List.set_cons_zero, List.set_cons_succ])
      refine plan_val (by kernel_rfl) (by kernel_rfl) (by kernel_rfl) (by go_simp) (fun w1 hw1 => ?_) ?_
      · obtain ⟨hc, hf⟩ := bcell hw1; clear hw1; go_simp; (try with_reducible rfl)
      (try simp only [Act.put, List.setIfInBounds_toArray, List.set_cons_zero, List.set_cons_succ])
      refine plan_val (by kernel_rfl) (by kernel_rfl) (by kernel_rfl) (by go_simp) (fun w1 hw1 => ?_) ?_
      · obtain ⟨hc, hf⟩ := bcell hw1; clear hw1; go_simp; (try with_reducible rfl)
      (try simp only [Act.put, List.setIfInBounds_toArray, List.set_cons_zero, List.set_cons_succ])
      refine plan_call [] 180 #[.int .i64 b1, .int .i64 y] (by kernel_rfl) (by kernel_rfl) (by kernel_rfl) (by kernel_rfl) (by go_simp) (fun w1 hw1 => ?_) (fun w1 hC => ?_) ?_
      · clear hw1; go_simp; (try with_reducible rfl)
      · exact (max_spec _ _ _).mono (fun e w2 h => ⟨h.1, h.2 ▸ Below.refl _ _⟩)
      (try simp only [Act.put, List.setIfInBounds_toArray, List.set_cons_zero, List.set_cons_succ])
      refine plan_val (by kernel_rfl) (by kernel_rfl) (by kernel_rfl) (by go_simp) (fun w1 hw1 => ?_) ?_
      · obtain ⟨hc, hf⟩ := bcell hw1; clear hw1; go_simp; (try with_reducible rfl)
      (try simp only [Act.put, List.setIfInBounds_toArray, List.set_cons_zero, List.set_cons_succ])
      refine plan_tail_w (by kernel_rfl) (by kernel_rfl) rfl (fun w5 hC => ?_)
      replace HQ := Lib.hid (HQ.out.below hC.1 HQ.out.1)
      replace HBB := Lib.hid (HBB.out.after hC.1)
      clear hC p0 p1 p2 p3 p4 p5 p6 p7 c0 c1 hsz hsz2 hbr
      obtain ⟨hc0, hc1, hsz2, hsz⟩ := HBB.out.cells
      obtain ⟨p0, p1, p2, p3⟩ := hc0
      obtain ⟨p4, p5, p6, p7⟩ := hc1
      gi_wp2
      clear p0 p1 p2 p3 p4 p5 p6 p7 hsz hsz2
      replace HBB := Lib.hid (HBB.out.hi1 (max b1 y))
      replace HQ := Lib.hid (HQ.out.below ((Below.refl w.heap.size w5).setCell (p := ⟨w.heap.size + 1 + 1 + 1, 1, none⟩) (by show w.heap.size ≤ w.heap.size + 1 + 1 + 1; omega) (.int .i64 (max b1 y))) hbw)
      generalize w5.setCell ⟨w.heap.size + 1 + 1 + 1, 1, none⟩ (.int .i64 (max b1 y)) = v5 at *
      obtain ⟨hc0, hc1, hsz2, hsz⟩ := HBB.out.cells
      obtain ⟨p0, p1, p2, p3⟩ := hc0
      obtain ⟨p4, p5, p6, p7⟩ := hc1
      obtain ⟨xx, yy, e, c0, c1⟩ := HQ.out.pt hkz
      rw [E.out] at e
      cases e
      have hbr := HQ.out.1
      go_wp2
      go_roundw
      case rel => exact ⟨k + 1, by omega, by omega, by go_num, Lib.hid (by rw [HA.out, HB.out, HC.out, HD.out]; exact HBB.out)⟩
      case measure => simp [intOf]; omega
    · obtain rfl : k = len := by omega
      obtain ⟨hc0, hc1, hsz2, hsz⟩ := HBB.out.cells
      obtain ⟨p0, p1, p2, p3⟩ := hc0
      obtain ⟨p4, p5, p6, p7⟩ := hc1
      have HEQ : Hid (k = zs.length) := HZ
      have hw0 : w.heap.size < wr.heap.size := by omega
      have hw1 : w.heap.size + 1 < wr.heap.size := by omega
      go_wp2
      refine wp_region_plan_env w [⟨99, w.heap.size, .cells #[.int .i64 (0), .int .i64 (0)] 30 (0, 0)⟩, ⟨98, w.heap.size + 1, .cells #[.int .i64 (0), .int .i64 (0)] 30 (0, 0)⟩, ⟨97, w.heap.size + 1 + 1, .cells #[.int .i64 (minF (pX zs) k), .int .i64 (minF (pY zs) k)] 30 (0, 0)⟩, ⟨96, w.heap.size + 1 + 1 + 1, .cells #[.int .i64 (maxF (pX zs) k), .int .i64 (maxF (pY zs) k)] 30 (0, 0)⟩] [.val 0 [97] (.agg #[.int .i64 (minF (pX zs) k), .int .i64 (minF (pY zs) k)]), .val 1 [96] (.agg #[.int .i64 (maxF (pX zs) k), .int .i64 (maxF (pY zs) k)]), .put 2 99 (.cells #[.int .i64 (minF (pX zs) k), .int .i64 (minF (pY zs) k)] 30 (0, 0)), .put 3 98 (.cells #[.int .i64 (maxF (pX zs) k), .int .i64 (maxF (pY zs) k)] 30 (0, 0))] (by kernel_rfl) (by kernel_rfl) rfl (by simp) (es_one _ (by simp <;> omega)) HBB.out.below (by simp only [List.mem_cons, List.not_mem_nil, or_false]; rintro x (rfl | rfl | rfl | rfl); exact ⟨Nat.le_refl _, hw0, HBB.out.r0⟩; exact ⟨Nat.le_succ _, hw1, HBB.out.r1⟩; exact ⟨by show w.heap.size ≤ w.heap.size + 1 + 1; omega, hsz2, HBB.out.lo⟩; exact ⟨by show w.heap.size ≤ w.heap.size + 1 + 1 + 1; omega, hsz, HBB.out.hi⟩) ?_
      refine plan_valu [97] (by kernel_rfl) (by kernel_rfl) (by kernel_rfl) (by kernel_rfl) (by go_simp) (fun w1 hC => ?_) ?_
      · obtain ⟨_, _, y3⟩ := hC.2 ⟨97, _, _⟩ ⟨List.mem_cons_of_mem _ (List.mem_cons_of_mem _ (List.mem_cons_self ..)), rfl⟩; obtain ⟨cc0, _, cc1, _⟩ := cells2_of y3; clear hC; go_simp; (try with_reducible rfl)
      (try simp only [Act.put, List.setIfInBounds_toArray, List.set_cons_zero, List.set_cons_succ])
      refine plan_valu [96] (by kernel_rfl) (by kernel_rfl) (by kernel_rfl) (by kernel_rfl) (by go_simp) (fun w1 hC => ?_) ?_
      · obtain ⟨_, _, y3⟩ := hC.2 ⟨96, _, _⟩ ⟨List.mem_cons_of_mem _ (List.mem_cons_of_mem _ (List.mem_cons_of_mem _ (List.mem_cons_self ..))), rfl⟩; obtain ⟨cc0, _, cc1, _⟩ := cells2_of y3; clear hC; go_simp; (try with_reducible rfl)
      (try simp only [Act.put, List.setIfInBounds_toArray, List.set_cons_zero, List.set_cons_succ])
      refine plan_put (p := w.heap.size) (by kernel_rfl) (by kernel_rfl) (by kernel_rfl) (by kernel_rfl) (by go_simp) (List.mem_cons_self ..) (fun w1 hg hh => ?_) ?_
      · obtain ⟨c0, f0, c1, f1⟩ := cells2_of hh
        refine ⟨_, ?_, stored2 hh⟩
        clear hh hg; go_simp; (try with_reducible rfl)
      (try simp only [Act.put])
      refine plan_put (p := w.heap.size + 1) (by kernel_rfl) (by kernel_rfl) (by kernel_rfl) (by kernel_rfl) (by go_simp) (Or.inl ⟨List.mem_cons_of_mem _ (List.mem_cons_self ..), (fun h => by cases h)⟩) (fun w1 hg hh => ?_) ?_
      · obtain ⟨c0, f0, c1, f1⟩ := cells2_of hh
        refine ⟨_, ?_, stored2 hh⟩
        clear hh hg; go_simp; (try with_reducible rfl)
      (try simp only [Act.put])
      refine plan_done (by kernel_rfl) (fun w2 hC => ?_)
      obtain ⟨_, s0, g0⟩ := hC.2 ⟨99, w.heap.size, .cells #[.int .i64 (minF (pX zs) k), .int .i64 (minF (pY zs) k)] 30 (0, 0)⟩ (Or.inl ⟨Or.inr ⟨⟨99, w.heap.size, _⟩, List.mem_cons_self .., rfl, rfl⟩, (fun h => by cases h)⟩)
      obtain ⟨_, s1, g1⟩ := hC.2 ⟨98, w.heap.size + 1, .cells #[.int .i64 (maxF (pX zs) k), .int .i64 (maxF (pY zs) k)] 30 (0, 0)⟩ (Or.inr ⟨⟨98, w.heap.size + 1, _⟩, Or.inl ⟨List.mem_cons_of_mem _ (List.mem_cons_self ..), (fun h => by cases h)⟩, rfl, rfl⟩)
      obtain ⟨q0, _, q1, _⟩ := cells2_of g0
      obtain ⟨q2, _, q3, _⟩ := cells2_of g1
      have HF2 := Lib.hid hC.1
      clear hC g0 g1 p0 p1 p2 p3 p4 p5 p6 p7 hsz hsz2
      go_wp2
      exact bodyPost_ret (v := .tuple #[.agg #[.int .i64 (minF (pX zs) k), .int .i64 (minF (pY zs) k)], .agg #[.int .i64 (maxF (pX zs) k), .int .i64 (maxF (pY zs) k)]]) (by simp [results, Try.results193, go_sem, q0, q1, q2, q3]) rfl ⟨by rw [← HEQ.out], HF2.out⟩
end Go.Proofs.Ytjhmpmaademdcaa
