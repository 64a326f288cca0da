/- Points and segments of impl: the small functions over valid points. -/
import Derived.Test.YtcbbhpabiijpoaaPtBase
import Derived.Test.YtcbbhpabiijpoaaIn
import Derived.Test.YtcbbhpabiijpoaaSegMath
import Derived.LoopTactic
namespace Go.Proofs.Ytcbbhpabiijpoaa
open Go.ChangeShapes Go.WideShapes Go.ChangeAt Go.RowKit
def okI (x y : Int) : Bool := inI x 0 20000 && inI y 0 20000
theorem ok_bd {x y : Int} (h : okI x y = true) : 0 ≤ x ∧ x ≤ 20000 ∧ 0 ≤ y ∧ y ≤ 20000 := by
  simp [okI, inI] at h; omega

theorem ok_spec (x y : Int) (w : World) : Calls Try.prog 79 #[.agg #[.int .i64 x, .int .i64 y]] w fun e w' => e = .returned (.bool (okI x y)) ∧ Below w.heap.size w w' := by
  have hs : okI x y = (inI x 0 20000 && inI y 0 20000) := rfl
  cases hx : inI x 0 20000
  · rw [hx, Bool.false_and] at hs; rw [hs]; clear hs
    go_enter Try.func79, Try.ntmps79
    go_wp2_with ((with_reducible refine (in_any _ _ _ _).mono ?_); rintro e w' ⟨rfl, rfl⟩)
    go_ret
    exact ⟨rfl, (Below.refl _ _).alloc (Nat.le_refl _) _⟩
  · cases hy : inI y 0 20000
    all_goals
      rw [hx, hy] at hs; simp only [Bool.true_and] at hs; rw [hs]; clear hs
      go_enter Try.func79, Try.ntmps79
      go_wp2_with ((with_reducible refine (in_any _ _ _ _).mono ?_); rintro e w' ⟨rfl, rfl⟩)
      go_ret
      exact ⟨rfl, (Below.refl _ _).alloc (Nat.le_refl _) _⟩
theorem valid_impl (x y : Int) (w : World) : Calls Try.prog 66 #[.agg #[.int .i64 x, .int .i64 y]] w fun e w' => e = .returned (.bool (okI x y)) ∧ Below w.heap.size w w' := by
  have hs : okI x y = ((decide (0 ≤ x) && decide (x ≤ 20000)) && (decide (0 ≤ y) && decide (y ≤ 20000))) := rfl
  cases h1 : decide (0 ≤ x)
  · simp only [h1, Bool.false_and] at hs
    rw [hs]; clear hs
    go_enter Try.func66, Try.ntmps66
    go_wp2
    go_ret
    exact ⟨rfl, (Below.refl _ _).alloc (Nat.le_refl _) _⟩
  cases h2 : decide (x ≤ 20000)
  · simp only [h1, h2, Bool.false_and, Bool.and_false] at hs
    rw [hs]; clear hs
    go_enter Try.func66, Try.ntmps66
    go_wp2
    go_ret
    exact ⟨rfl, (Below.refl _ _).alloc (Nat.le_refl _) _⟩
  cases h3 : decide (0 ≤ y) <;> cases h4 : decide (y ≤ 20000)
  all_goals
    simp only [h1, h2, h3, h4, Bool.and_false, Bool.and_true] at hs
    rw [hs]; clear hs
    go_enter Try.func66, Try.ntmps66
    go_wp2
    go_ret
    exact ⟨rfl, (Below.refl _ _).alloc (Nat.le_refl _) _⟩

/-- A row of points lies at the start of the block b. -/
def PtsAt (w : World) (b : Nat) (zs : List (Int × Int)) : Prop := b < w.heap.size ∧ ∀ j, j < zs.length → w.cell? ⟨b, j * 2, none⟩ = some (.int .i64 (zs.getD j (0, 0)).1) ∧ w.cell? ⟨b, j * 2 + 1, none⟩ = some (.int .i64 (zs.getD j (0, 0)).2)
theorem PtsAt.below {B b : Nat} {w w' : World} {zs : List (Int × Int)} (h : PtsAt w b zs) (hb : Below B w w') (hB : b < B) : PtsAt w' b zs :=
  ⟨Nat.lt_of_lt_of_le h.1 hb.size, fun j hj => ⟨(hb.cell (p := ⟨b, j * 2, none⟩) hB).trans (h.2 j hj).1, (hb.cell (p := ⟨b, j * 2 + 1, none⟩) hB).trans (h.2 j hj).2⟩⟩
def allOk (zs : List (Int × Int)) : Bool := zs.all fun p => okI p.1 p.2
theorem allOk_bad (zs : List (Int × Int)) (k : Nat) (h : k < zs.length) (hk : okI (zs.getD k (0, 0)).1 (zs.getD k (0, 0)).2 = false) : allOk zs = false := by
  unfold allOk
  rw [List.all_eq_false]
  have e : zs.getD k (0, 0) = zs[k] := by simp [h]
  rw [e] at hk
  exact ⟨zs[k], List.getElem_mem h, by simp [hk]⟩
theorem allOk_snoc (zs : List (Int × Int)) (k : Nat) (h : k < zs.length) (ha : allOk (zs.take k) = true) (hk : okI (zs.getD k (0, 0)).1 (zs.getD k (0, 0)).2 = true) : allOk (zs.take (k + 1)) = true := by
  unfold allOk at *
  have e : zs.getD k (0, 0) = zs[k] := by simp [h]
  rw [e] at hk
  rw [List.take_succ_eq_append_getElem h, List.all_append, ha]
  simp [hk]
theorem allOk_end (zs : List (Int × Int)) (k : Nat) (h : zs.length ≤ k) (ha : allOk (zs.take k) = true) : allOk zs = true := by
  rw [List.take_of_length_le h] at ha; exact ha

set_option maxHeartbeats 1000000 in
theorem allValid_any (b len cap : Nat) (zs : List (Int × Int)) (w : World) (hz : len = zs.length) (hl : len ≤ 1000) (hp : PtsAt w b zs) :
    Calls Try.prog 50 #[.slice (some ⟨b, 0, none⟩) len cap] w fun e w' => e = .returned (.bool (allOk zs)) ∧ Below w.heap.size w w' := by
  have HZ := Lib.hid hz
  have HP := Lib.hid hp
  clear hz hp
  go_enter Try.func50, Try.ntmps50
  go_wp2
  go_loopw [7] (fun i wr => ∃ k : Nat, k ≤ len ∧ i = .int .i64 k ∧ Hid (allOk (zs.take k) = true) ∧ Hid (Below w.heap.size w wr)) (fun i _ => len - (intOf i).toNat)
  case atStart => exact ⟨0, by omega, rfl, Lib.hid (by simp [allOk]), Lib.hid (Below.refl _ _)⟩
  case round =>
    obtain ⟨k, hk, rfl, ha, hb⟩ := hrel
    by_cases hlt : k < len
    · have hkz : k < zs.length := by have := HZ.out; omega
      have hc := (HP.out.below hb.out HP.out.1).2 k hkz
      obtain ⟨hc1, hc2⟩ := hc
      have HS := Lib.hid (allOk_snoc zs k hkz ha.out)
      have HBad := Lib.hid (allOk_bad zs k hkz)
      generalize (zs.getD k (0, 0)).1 = x at *
      generalize (zs.getD k (0, 0)).2 = y at *
      cases ho : okI x y
      · go_wp2_with fail
        refine (valid_impl _ _ _).mono ?_
        rintro e w1 ⟨rfl, hb1⟩
        have HB1 := Lib.hid hb1
        clear hb1
        go_wp2
        go_ret
        exact ⟨ret_bool (HBad.out ho).symm, (bseq (hb.out.alloc hb.out.size _) HB1.out)⟩
      · go_wp2_with fail
        refine (valid_impl _ _ _).mono ?_
        rintro e w1 ⟨rfl, hb1⟩
        have HB1 := Lib.hid hb1
        clear hb1
        go_wp2
        go_roundw
        case rel => exact ⟨k + 1, by omega, by go_num, Lib.hid (HS.out ho), Lib.hid (bseq (hb.out.alloc hb.out.size _) HB1.out)⟩
        case measure => simp [intOf]; omega
    · go_wp2
      go_ret
      exact ⟨ret_bool (allOk_end zs k (by have := HZ.out; omega) ha.out).symm, hb.out⟩

theorem minus_any (px py qx qy : Int) (w : World) (h1 : -20000 ≤ px ∧ px ≤ 20000) (h2 : -20000 ≤ py ∧ py ≤ 20000) (h3 : -20000 ≤ qx ∧ qx ≤ 20000) (h4 : -20000 ≤ qy ∧ qy ≤ 20000) :
    Calls Try.prog 61 #[.agg #[.int .i64 px, .int .i64 py], .agg #[.int .i64 qx, .int .i64 qy]] w fun e w' => e = .returned (.agg #[.int .i64 (px - qx), .int .i64 (py - qy)]) ∧ Below w.heap.size w w' := by
  go_enter Try.func61, Try.ntmps61
  go_wp2
  exact bodyPost_ret (v := .agg #[.int .i64 (px - qx), .int .i64 (py - qy)]) (by simp [results, Try.results61, go_sem]) rfl ⟨rfl, (two_allocs _ _).alloc (by simp; omega) _⟩
theorem cross_any (px py qx qy : Int) (w : World) (h1 : -20000 ≤ px ∧ px ≤ 20000) (h2 : -20000 ≤ py ∧ py ≤ 20000) (h3 : -20000 ≤ qx ∧ qx ≤ 20000) (h4 : -20000 ≤ qy ∧ qy ≤ 20000) :
    Calls Try.prog 60 #[.agg #[.int .i64 px, .int .i64 py], .agg #[.int .i64 qx, .int .i64 qy]] w fun e w' => e = .returned (.int .i64 (px * qy - py * qx)) ∧ Below w.heap.size w w' := by
  have m1 := mulB px qy 20000 20000 h1.1 h1.2 h4.1 h4.2
  have m2 := mulB py qx 20000 20000 h2.1 h2.2 h3.1 h3.2
  go_enter Try.func60, Try.ntmps60
  go_wp2
  go_ret
  exact ⟨rfl, two_allocs _ _⟩
theorem dot_any (px py qx qy : Int) (w : World) (h1 : -20000 ≤ px ∧ px ≤ 20000) (h2 : -20000 ≤ py ∧ py ≤ 20000) (h3 : -20000 ≤ qx ∧ qx ≤ 20000) (h4 : -20000 ≤ qy ∧ qy ≤ 20000) :
    Calls Try.prog 93 #[.agg #[.int .i64 px, .int .i64 py], .agg #[.int .i64 qx, .int .i64 qy]] w fun e w' => e = .returned (.int .i64 (px * qx + py * qy)) ∧ Below w.heap.size w w' := by
  have m1 := mulB px qx 20000 20000 h1.1 h1.2 h3.1 h3.2
  have m2 := mulB py qy 20000 20000 h2.1 h2.2 h4.1 h4.2
  go_enter Try.func93, Try.ntmps93
  go_wp2
  go_ret
  exact ⟨rfl, two_allocs _ _⟩
theorem nan_any (n : Int) (w : World) : Calls Try.prog 123 #[.int .i64 n] w fun e w' => e = .returned (.bool false) ∧ w = w' := by
  go_enter Try.func123, Try.ntmps123
  go_wp2
  go_ret
  exact ⟨rfl, rfl⟩
theorem cmp_any (n : Int) (w : World) : Calls Try.prog 96 #[.int .i64 n, .int .i64 0] w fun e w' => e = .returned (.int .i64 (sgI n)) ∧ w = w' := by
  have hs : sgI n = if 0 < n then 1 else if n < 0 then -1 else 0 := rfl
  rcases Int.lt_trichotomy n 0 with h | h | h
  · rw [if_neg (by omega), if_pos h] at hs
    rw [hs]; clear hs
    go_enter Try.func96, Try.ntmps96
    go_wp2_with ((with_reducible refine (nan_any _ _).mono ?_); rintro e w' ⟨rfl, rfl⟩)
    go_ret
    exact ⟨rfl, rfl⟩
  · subst h
    go_enter Try.func96, Try.ntmps96
    go_wp2_with ((with_reducible refine (nan_any _ _).mono ?_); rintro e w' ⟨rfl, rfl⟩)
    go_ret
    exact ⟨rfl, rfl⟩
  · rw [if_pos h] at hs
    rw [hs]; clear hs
    go_enter Try.func96, Try.ntmps96
    go_wp2_with ((with_reducible refine (nan_any _ _).mono ?_); rintro e w' ⟨rfl, rfl⟩)
    go_ret
    exact ⟨rfl, rfl⟩
def in20 (x : Int) : Prop := -20000 ≤ x ∧ x ≤ 20000
theorem step_any (xa ya xb yb : Int) (w : World) (ha : okI xa ya = true) (hb : okI xb yb = true) :
    Calls Try.prog 59 #[.agg #[.int .i64 xa, .int .i64 ya, .int .i64 xb, .int .i64 yb]] w fun e w' => e = .returned (.agg #[.int .i64 (xb - xa), .int .i64 (yb - ya)]) ∧ Below w.heap.size w w' := by
  have h1 := ok_bd ha
  have h2 := ok_bd hb
  clear ha hb
  go_enter Try.func59, Try.ntmps59
  go_wp2_with fail
  refine (minus_any _ _ _ _ _ (by omega) (by omega) (by omega) (by omega)).mono ?_
  rintro e w1 ⟨rfl, hb1⟩
  obtain ⟨hc, hf⟩ := bcell hb1
  have HB1 := Lib.hid hb1
  clear hb1
  go_wp2
  exact bodyPost_ret (v := .agg #[.int .i64 (xb - xa), .int .i64 (yb - ya)]) (by simp [results, Try.results59, go_sem, hc]) rfl ⟨rfl, ((bseq (two_allocs _ _) HB1.out).setCell (by simp) _).setCell (by simp) _⟩
theorem side_any (xa ya xb yb xp yp : Int) (w : World) (ha : okI xa ya = true) (hb : okI xb yb = true) (hp : okI xp yp = true) :
    Calls Try.prog 55 #[.agg #[.int .i64 xa, .int .i64 ya, .int .i64 xb, .int .i64 yb], .agg #[.int .i64 xp, .int .i64 yp]] w fun e w' => e = .returned (.int .i64 (sdI xa ya xb yb xp yp)) ∧ Below w.heap.size w w' := by
  have h1 := ok_bd ha
  have h2 := ok_bd hb
  have h3 := ok_bd hp
  have HA := Lib.hid ha
  have HB := Lib.hid hb
  clear ha hb hp
  have HE : sgI ((xb - xa) * (yp - ya) - (yb - ya) * (xp - xa)) = sdI xa ya xb yb xp yp := rfl
  have HE' := Lib.hid HE
  clear HE
  go_enter Try.func55, Try.ntmps55
  go_wp2
  refine wp_region_below (by kernel_rfl) (by kernel_rfl) ?_
  (refine wq_val (by go_simp) ?_; apply Exists.intro; refine ⟨fun w1 hw1 => ?_, ?_⟩; (obtain ⟨hc, hf⟩ := bcell hw1; clear hw1; go_simp; (try with_reducible rfl)); (try simp only [Act.put, List.setIfInBounds_toArray, List.set_cons_zero, List.set_cons_succ]))
  (refine wq_call 59 (by go_simp) ?_; apply Exists.intro; refine ⟨fun w1 hw1 => ?_, ?_⟩; (clear hw1; go_simp; (try with_reducible rfl)); apply Exists.intro; refine ⟨fun w1 hw1 => ?_, ?_⟩; (exact calls_below hw1 (step_any _ _ _ _ _ HA.out HB.out)); (try simp only [Act.put, List.setIfInBounds_toArray, List.set_cons_zero, List.set_cons_succ]))
  (refine wq_val (by go_simp) ?_; apply Exists.intro; refine ⟨fun w1 hw1 => ?_, ?_⟩; (obtain ⟨hc, hf⟩ := bcell hw1; clear hw1; go_simp; (try with_reducible rfl)); (try simp only [Act.put, List.setIfInBounds_toArray, List.set_cons_zero, List.set_cons_succ]))
  (refine wq_val (by go_simp) ?_; apply Exists.intro; refine ⟨fun w1 hw1 => ?_, ?_⟩; (obtain ⟨hc, hf⟩ := bcell hw1; clear hw1; go_simp; (try with_reducible rfl)); (try simp only [Act.put, List.setIfInBounds_toArray, List.set_cons_zero, List.set_cons_succ]))
  (refine wq_val (by go_simp) ?_; apply Exists.intro; refine ⟨fun w1 hw1 => ?_, ?_⟩; (obtain ⟨hc, hf⟩ := bcell hw1; clear hw1; go_simp; (try with_reducible rfl)); (try simp only [Act.put, List.setIfInBounds_toArray, List.set_cons_zero, List.set_cons_succ]))
  (refine wq_call 61 (by go_simp) ?_; apply Exists.intro; refine ⟨fun w1 hw1 => ?_, ?_⟩; (clear hw1; go_simp; (try with_reducible rfl)); apply Exists.intro; refine ⟨fun w1 hw1 => ?_, ?_⟩; (exact calls_below hw1 (minus_any _ _ _ _ _ (by omega) (by omega) (by omega) (by omega))); (try simp only [Act.put, List.setIfInBounds_toArray, List.set_cons_zero, List.set_cons_succ]))
  (refine wq_call 60 (by go_simp) ?_; apply Exists.intro; refine ⟨fun w1 hw1 => ?_, ?_⟩; (clear hw1; go_simp; (try with_reducible rfl)); apply Exists.intro; refine ⟨fun w1 hw1 => ?_, ?_⟩; (exact calls_below hw1 (cross_any _ _ _ _ _ (by omega) (by omega) (by omega) (by omega))); (try simp only [Act.put, List.setIfInBounds_toArray, List.set_cons_zero, List.set_cons_succ]))
  (refine wq_call 96 (by go_simp) ?_; apply Exists.intro; refine ⟨fun w1 hw1 => ?_, ?_⟩; (clear hw1; go_simp; (try with_reducible rfl)); apply Exists.intro; refine ⟨fun w1 hw1 => ?_, ?_⟩; (exact calls_below_same hw1 (cmp_any _ _)); (try simp only [Act.put, List.setIfInBounds_toArray, List.set_cons_zero, List.set_cons_succ]))
  (refine wq_val (by go_simp) ?_; apply Exists.intro; refine ⟨fun w1 hw1 => ?_, ?_⟩; (obtain ⟨hc, hf⟩ := bcell hw1; clear hw1; go_simp; (try with_reducible rfl)); (try simp only [Act.put, List.setIfInBounds_toArray, List.set_cons_zero, List.set_cons_succ]))
  refine wq_nil ?_
  intro w1 hb1
  have HB1 := Lib.hid hb1
  clear hb1
  go_wp2
  go_ret
  exact ⟨ret_int HE'.out, bseq (two_allocs _ _) HB1.out⟩
end Go.Proofs.Ytcbbhpabiijpoaa
