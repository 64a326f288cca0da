/- What the laws do with slices of points: their size, a copy, are two equal. -/
import Derived.Test.YtjhmpmaademdcaaAgain
import Derived.Deep.OwnRows
import Derived.LoopTactic
namespace Go.Proofs.Ytjhmpmaademdcaa
open Go.ChangeShapes Go.WideShapes Go.ChangeAt Go.RowKit
set_option linter.unusedVariables false

theorem szPt_ok (ao : Option Addr) (n c : Nat) (w : World) (hn : n ≤ 1048576) : Calls Try.prog 16 #[.slice ao n c, .int .i64 1048576] w fun e w' => e = .returned (.int .i64 (1048576 - n)) ∧ w = w' := by
  have e1 : IntKind.i64.wrap (1048576 - (n : Int)) = 1048576 - (n : Int) := IntWalk.i64_in _ (by omega)
  have e2 : decide (1048576 - (n : Int) < 0) = false := by simp; omega
  go_enter Try.func16, Try.ntmps16
  go_wp2
  go_ret
  exact ⟨rfl, rfl⟩
theorem szPt_no (ao : Option Addr) (n c : Nat) (w : World) (hn : 1048576 < n) (hm : n ≤ 9223372036854775807) : Calls Try.prog 16 #[.slice ao n c, .int .i64 1048576] w fun e w' => e = .returned (.int .i64 (-1)) ∧ w = w' := by
  have e1 : IntKind.i64.wrap (1048576 - (n : Int)) = 1048576 - (n : Int) := IntWalk.i64_in _ (by omega)
  have e2 : decide (1048576 - (n : Int) < 0) = true := by simp; omega
  go_enter Try.func16, Try.ntmps16
  go_wp2
  go_ret
  exact ⟨rfl, rfl⟩
theorem info_pt : (Try.prog.info? 30).map (fun i => (i.zero, i.size, i.bytes)) = some (some (.agg #[.int .i64 0, .int .i64 0]), 2, 16) := by kernel_rfl
theorem make_pts (n : Nat) (hn : n ≤ 1048576) (w : World) : (Instr.makeSlice 28 (.int .i64 (n : Int)) (.int .i64 (n : Int))).run Try.prog w = .ok (.slice (some ⟨w.heap.size, 0, none⟩) n n) (w.alloc (.cells (madeCells #[.int .i64 0, .int .i64 0] (n * 2)) 30)) := by
  obtain ⟨i0, hi, hz0, hz1, hz2⟩ := info_parts info_pt
  have h := run_make (P := Try.prog) w 28 30 i0 _ Try.underlying28 hi hz0 .i64 .i64 n n (by omega) (by omega) (by rw [hz2]; omega) (by omega)
  rw [hz1, show (Value.agg #[.int .i64 0, .int .i64 0]).cells = #[.int .i64 0, .int .i64 0] from rfl] at h
  simpa using h
/-- The cells of a row of points, of which the first k are laid. -/
def ptF (zs : List P2) (k j : Nat) : Value := if j < k * 2 then (if j % 2 = 0 then .int .i64 (zs.getD (j / 2) (0, 0)).1 else .int .i64 (zs.getD (j / 2) (0, 0)).2) else .int .i64 0
theorem made_pts (w : World) (n : Nat) (zs : List P2) (t : TypeId) : (w.alloc (.cells (madeCells #[.int .i64 0, .int .i64 0] (n * 2)) t)).rowIs w.heap.size t (n * 2) (ptF zs 0) := by
  have h := World.rowIs_alloc w (madeCells #[.int .i64 0, .int .i64 0] (n * 2)) t (ptF zs 0) (fun i hi => by
    rw [size_madeCells] at hi
    have h2 : i % 2 = 0 ∨ i % 2 = 1 := by omega
    rcases h2 with h2 | h2 <;> simp [madeCells, hi, ptF, h2])
  rw [size_madeCells] at h
  exact h
theorem ptF_step {zs : List P2} {k : Nat} {x y : Int} (h : zs.getD k (0, 0) = (x, y)) (j : Nat) : (if j = k * 2 + 1 then Value.int .i64 y else if j = k * 2 then Value.int .i64 x else ptF zs k j) = ptF zs (k + 1) j := by
  unfold ptF
  by_cases h1 : j = k * 2 + 1
  · subst h1
    have a1 : (k * 2 + 1) / 2 = k := by omega
    have a2 : (k * 2 + 1) % 2 = 1 := by omega
    rw [if_pos rfl, if_pos (by omega), a1, a2, h]; rfl
  · rw [if_neg h1]
    by_cases h2 : j = k * 2
    · subst h2
      have a1 : (k * 2) / 2 = k := by omega
      have a2 : (k * 2) % 2 = 0 := by omega
      rw [if_pos rfl, if_pos (by omega), a1, a2, h]; rfl
    · rw [if_neg h2]
      by_cases h3 : j < k * 2
      · rw [if_pos h3, if_pos (show j < (k + 1) * 2 by omega)]
      · rw [if_neg h3, if_neg (show ¬ j < (k + 1) * 2 by omega)]
theorem rowIs_below {w w' : World} {b n : Nat} {t : TypeId} {f : Nat → Value} (h : w.rowIs b t n f) (hb : Below w.heap.size w w') : w'.rowIs b t n f := h.of_block (hb.block b h.lt)
theorem rowIs_pts {w : World} {b n : Nat} {t : TypeId} {zs : List P2} (hz : n = zs.length) (h : w.rowIs b t (n * 2) (ptF zs n)) : PtsAt w b zs := by
  refine ⟨h.lt, fun j hj => ?_⟩
  have h1 := h.cell (i := j * 2) (by omega)
  have h2 := h.cell (i := j * 2 + 1) (by omega)
  have a1 : (j * 2) / 2 = j := by omega
  have a2 : (j * 2) % 2 = 0 := by omega
  have a3 : (j * 2 + 1) / 2 = j := by omega
  have a4 : (j * 2 + 1) % 2 = 1 := by omega
  rw [ptF, if_pos (by omega), a1, a2] at h1
  rw [ptF, if_pos (by omega), a3, a4] at h2
  exact ⟨h1, h2⟩
def CopyPost (n : Nat) (zs : List P2) (w : World) (e : Ending) (w' : World) : Prop := ∃ g, e = .returned (.slice (some ⟨g, 0, none⟩) n n) ∧ w.heap.size ≤ g ∧ w'.rowIs g 30 (n * 2) (ptF zs n) ∧ Below w.heap.size w w'
set_option maxRecDepth 100000 in
set_option maxHeartbeats 1000000 in
theorem toPoints_any (ao : Option Addr) (n c : Nat) (zs : List P2) (w : World) (hn : n ≤ 1048576) (hv : LView w ao n zs) :
    Calls Try.prog 18 #[.slice ao n c] w (CopyPost n zs w) := by
  have HV := Lib.hid hv
  clear hv
  have hmk := make_pts n hn
  go_enter Try.func18, Try.ntmps18
  go_wp2
  clear hmk
  go_loopw [4] (fun iv wr => ∃ k : Nat, k ≤ n ∧ iv = .int .i64 k ∧ Hid (wr.rowIs w.heap.size 30 (n * 2) (ptF zs k)) ∧ Hid (Below w.heap.size w wr)) (fun i _ => n - (intOf i).toNat)
  case atStart => exact ⟨0, by omega, rfl, Lib.hid (made_pts w n zs _), Lib.hid (one_alloc _)⟩
  case round =>
    obtain ⟨k, hk, rfl, hr, hb⟩ := hrel
    by_cases hlt : k < n
    · obtain ⟨b, off, rfl, hbw, hcs⟩ := HV.out.2.resolve_left (by omega)
      obtain ⟨c0, c1⟩ := hcs k hlt
      replace c0 := (hb.out.cell (p := ⟨b, off + k * 2, none⟩) hbw).trans c0
      replace c1 := (hb.out.cell (p := ⟨b, off + k * 2 + 1, none⟩) hbw).trans c1
      obtain ⟨x, y, e⟩ : ∃ x y, zs.getD k (0, 0) = (x, y) := ⟨_, _, rfl⟩
      rw [e] at c0 c1
      have HE := Lib.hid (ptF_step e)
      have hgw := hr.out.lt
      have hbr : b < wr.heap.size := Nat.lt_of_lt_of_le hbw hb.out.size
      clear hcs e
      go_wp2_with fail
      refine (toPoint_any _ _ _).mono ?_
      rintro e w1 ⟨rfl, hb1⟩
      have HB1 := Lib.hid hb1
      have hr1 := rowIs_below hr.out hb1
      have d0 := hr1.cell (i := k * 2) (by omega)
      have d1 := hr1.cell (i := k * 2 + 1) (by omega)
      rw [ptF, if_neg (by omega)] at d0 d1
      have f0 := hr1.frozen (k * 2)
      have f1 := hr1.frozen (k * 2 + 1)
      have HR1 := Lib.hid hr1
      clear hb1 hr1 c0 c1
      go_wp2
      go_roundw
      case rel => exact ⟨k + 1, by omega, by go_num, Lib.hid (((HR1.out.set (k * 2) _).set (k * 2 + 1) _).congr (fun j _ => HE.out j)), Lib.hid (((bseq hb.out HB1.out).setCell (Nat.le_refl _) _).setCell (Nat.le_refl _) _)⟩
      case measure => simp [intOf]; omega
    · obtain rfl : k = n := by omega
      go_wp2
      go_ret
      exact ⟨w.heap.size, rfl, Nat.le_refl _, hr.out, hb.out⟩
theorem eqPt_any (x y u v : Int) (w : World) : Calls Try.prog 79 #[.agg #[.int .i64 x, .int .i64 y], .agg #[.int .i64 u, .int .i64 v]] w fun e w' => e = .returned (.bool (decide (x = u) && decide (y = v))) ∧ Below w.heap.size w w' := by
  cases hx : decide (x = u)
  · simp only [Bool.false_and]
    have h1 : x ≠ u := by simpa using hx
    go_enter Try.func79, Try.ntmps79
    go_wp2
    go_ret
    exact ⟨rfl, two_allocs _ _⟩
  · simp only [Bool.true_and]
    obtain rfl : x = u := by simpa using hx
    cases hy : decide (y = v)
    · have h2 : y ≠ v := by simpa using hy
      clear hx
      go_enter Try.func79, Try.ntmps79
      go_wp2
      go_ret
      exact ⟨rfl, two_allocs _ _⟩
    · obtain rfl : y = v := by simpa using hy
      clear hx hy
      go_enter Try.func79, Try.ntmps79
      go_wp2
      go_ret
      exact ⟨rfl, two_allocs _ _⟩
set_option maxRecDepth 100000 in
set_option maxHeartbeats 1000000 in
/-- Two slices that hold the same points are equal. -/
theorem eqPts_same (ao bo : Option Addr) (n c d : Nat) (zs : List P2) (w : World) (hn : n ≤ 1048576) (ha : PV w ao n zs) (hb : PV w bo n zs) :
    Calls Try.prog 21 #[.slice ao n c, .slice bo n d] w fun e w' => e = .returned (.bool true) ∧ Below w.heap.size w w' := by
  have HA := Lib.hid ha
  have HB := Lib.hid hb
  clear ha hb
  go_enter Try.func21, Try.ntmps21
  go_wp2
  go_loopw [5] (fun iv wr => ∃ k : Nat, k ≤ n ∧ iv = .int .i64 k ∧ Hid (Below w.heap.size w wr)) (fun i _ => n - (intOf i).toNat)
  case atStart => exact ⟨0, by omega, rfl, Lib.hid (Below.refl _ _)⟩
  case round =>
    obtain ⟨k, hk, rfl, hw⟩ := hrel
    by_cases hlt : k < n
    · have hkz : k < zs.length := by have := HA.out.1; omega
      obtain ⟨a, rfl, hpa⟩ := (HA.out.below hw.out).at (by omega)
      obtain ⟨b, rfl, hpb⟩ := (HB.out.below hw.out).at (by omega)
      have haw := hpa.1
      have hbw := hpb.1
      obtain ⟨x, y, e, a0, a1⟩ := hpa.pt hkz
      obtain ⟨u, v, e', b0, b1⟩ := hpb.pt hkz
      rw [e] at e'
      cases e'
      clear e hpa hpb
      go_wp2
      refine wp_region_below (by kernel_rfl) (by kernel_rfl) ?_
      (refine wq_val (by go_simp) ?_; apply Exists.intro; refine ⟨fun w1 hw1 => ?_, ?_⟩; (obtain ⟨hc, hf⟩ := bcell hw1; clear hw1; go_simp; (try with_reducible rfl)); (try simp only [Act.put, List.setIfInBounds_toArray, List.set_cons_zero, List.set_cons_succ]))
      (refine wq_val (by go_simp) ?_; apply Exists.intro; refine ⟨fun w1 hw1 => ?_, ?_⟩; (obtain ⟨hc, hf⟩ := bcell hw1; clear hw1; go_simp; (try with_reducible rfl)); (try simp only [Act.put, List.setIfInBounds_toArray, List.set_cons_zero, List.set_cons_succ]))
      (refine wq_val (by go_simp) ?_; apply Exists.intro; refine ⟨fun w1 hw1 => ?_, ?_⟩; (obtain ⟨hc, hf⟩ := bcell hw1; clear hw1; go_simp; (try with_reducible rfl)); (try simp only [Act.put, List.setIfInBounds_toArray, List.set_cons_zero, List.set_cons_succ]))
      (refine wq_val (by go_simp) ?_; apply Exists.intro; refine ⟨fun w1 hw1 => ?_, ?_⟩; (obtain ⟨hc, hf⟩ := bcell hw1; clear hw1; go_simp; (try with_reducible rfl)); (try simp only [Act.put, List.setIfInBounds_toArray, List.set_cons_zero, List.set_cons_succ]))
      (refine wq_val (by go_simp) ?_; apply Exists.intro; refine ⟨fun w1 hw1 => ?_, ?_⟩; (obtain ⟨hc, hf⟩ := bcell hw1; clear hw1; go_simp; (try with_reducible rfl)); (try simp only [Act.put, List.setIfInBounds_toArray, List.set_cons_zero, List.set_cons_succ]))
      (refine wq_val (by go_simp) ?_; apply Exists.intro; refine ⟨fun w1 hw1 => ?_, ?_⟩; (obtain ⟨hc, hf⟩ := bcell hw1; clear hw1; go_simp; (try with_reducible rfl)); (try simp only [Act.put, List.setIfInBounds_toArray, List.set_cons_zero, List.set_cons_succ]))
      (refine wq_val (by go_simp) ?_; apply Exists.intro; refine ⟨fun w1 hw1 => ?_, ?_⟩; (obtain ⟨hc, hf⟩ := bcell hw1; clear hw1; go_simp; (try with_reducible rfl)); (try simp only [Act.put, List.setIfInBounds_toArray, List.set_cons_zero, List.set_cons_succ]))
      (refine wq_val (by go_simp) ?_; apply Exists.intro; refine ⟨fun w1 hw1 => ?_, ?_⟩; (obtain ⟨hc, hf⟩ := bcell hw1; clear hw1; go_simp; (try with_reducible rfl)); (try simp only [Act.put, List.setIfInBounds_toArray, List.set_cons_zero, List.set_cons_succ]))
      (refine wq_call 79 (by go_simp) ?_; apply Exists.intro; refine ⟨fun w1 hw1 => ?_, ?_⟩; (clear hw1; go_simp; (try with_reducible rfl)); apply Exists.intro; refine ⟨fun w1 hw1 => ?_, ?_⟩; (exact calls_below hw1 (eqPt_any _ _ _ _ _)); (try simp only [Act.put, List.setIfInBounds_toArray, List.set_cons_zero, List.set_cons_succ]))
      (refine wq_val (by go_simp) ?_; apply Exists.intro; refine ⟨fun w1 hw1 => ?_, ?_⟩; (obtain ⟨hc, hf⟩ := bcell hw1; clear hw1; go_simp; (try with_reducible rfl)); (try simp only [Act.put, List.setIfInBounds_toArray, List.set_cons_zero, List.set_cons_succ]))
      refine wq_nil ?_
      intro w1 hb1
      have HB1 := Lib.hid hb1
      clear hb1
      go_wp2
      go_roundw
      case rel => exact ⟨k + 1, by omega, by go_num, Lib.hid (bseq hw.out HB1.out)⟩
      case measure => simp [intOf]; omega
    · obtain rfl : k = n := by omega
      go_wp2
      go_ret
      exact ⟨rfl, hw.out⟩
end Go.Proofs.Ytjhmpmaademdcaa
