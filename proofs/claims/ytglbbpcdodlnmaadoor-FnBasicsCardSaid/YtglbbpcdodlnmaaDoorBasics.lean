/- The walk of FnBasics where both inputs have at most 1048576 bytes. -/
import Derived.Test.YtglbbpcdodlnmaaDoorBasMath
import Derived.Test.YtglbbpcdodlnmaaDoorSrc
import Derived.Test.YtglbbpcdodlnmaaDoorRootImpl
import Derived.Test.YtglbbpcdodlnmaaDoorDivImpl
import Derived.Test.YtglbbpcdodlnmaaDoorBlendImpl
import Derived.Test.YtglbbpcdodlnmaaDoorReadLaw
namespace Go.Proofs.YtglbbpcdodlnmaaDoor
open Go.ChangeShapes Go.WideShapes Go.ChangeAt Go.RowKit

set_option maxHeartbeats 1000000 in
theorem same_yes (b1 b2 c1 c2 : Nat) (zs : List Int) (w : World) (hl : zs.length ≤ 1048576) (h1 : IntsAt w b1 zs) (h2 : IntsAt w b2 zs) :
    Calls Tryd.prog 21 #[.slice (some ⟨b1, 0, none⟩) zs.length c1, .slice (some ⟨b2, 0, none⟩) zs.length c2] w fun e w' => e = .returned (.bool true) ∧ ∃ n, w' = w.drewN n := by
  have H1 := Lib.hid h1
  have H2 := Lib.hid h2
  clear h1 h2
  go_enter Tryd.func21, Tryd.ntmps21
  go_wp2
  go_loopw [5] (fun i wr => ∃ k n : Nat, k ≤ zs.length ∧ i = .int .i64 k ∧ wr = w.drewN n) (fun i _ => zs.length - (intOf i).toNat)
  case atStart => exact ⟨0, 0, by omega, rfl, rfl⟩
  case round =>
    obtain ⟨k, n, hk, rfl, rfl⟩ := hrel
    by_cases hlt : k < zs.length
    · have c1' := H1.out.2 k hlt
      have c2' := H2.out.2 k hlt
      have hlt' : (k : Int) < (zs.length : Int) := by omega
      generalize zs.getD k 0 = y at *
      go_wp2
      go_quiet (fail)
      go_wp2
      go_roundw
      case rel => exact ⟨k + 1, _, by omega, by go_num, rfl⟩
      case measure => simp [intOf]; omega
    · go_wp2
      go_ret
      exact ⟨rfl, n, rfl⟩
theorem abs_lt (n b : Int) (w : World) (hb : b ≤ 5000) (h1 : 2 * n ≤ b) (h2 : -b ≤ 2 * n) :
    Calls Tryd.prog 14 #[.int .i64 n] w fun e w' => (∃ m : Int, 0 ≤ m ∧ 2 * m ≤ b ∧ e = .returned (.int .i64 m)) ∧ w = w' :=
  (abs_any n w (by omega) (by omega)).mono fun _ _ ⟨he, hw⟩ => ⟨⟨max n (-n), by omega, by omega, he⟩, hw⟩
theorem div_some (a b : Int) (w : World) (ha1 : -1000000000000 ≤ a) (ha2 : a ≤ 1000000000000) (hb : 0 < b) (hb2 : b ≤ 1000000000000) :
    Calls Tryd.prog 13 #[.int .i64 a, .int .i64 b] w fun e w' => e = .returned (.int .i64 (nearI a b)) ∧ Below w.heap.size w w' := by
  rw [← dr_in a b ha1 ha2 hb hb2]
  exact divRound_impl a b w
theorem div_q (a b Q : Int) (w : World) (ha1 : -1000000000000 ≤ a) (ha2 : a ≤ 1000000000000) (hb : 0 < b) (hb2 : b ≤ 1000000000000) (hQ : nearI a b = Q) :
    Calls Tryd.prog 13 #[.int .i64 a, .int .i64 b] w fun e w' => e = .returned (.int .i64 Q) ∧ Below w.heap.size w w' := by
  rw [← hQ]
  exact div_some a b w ha1 ha2 hb hb2
theorem div_neg (a b Q : Int) (w : World) (ha1 : -1000000000000 ≤ a) (ha2 : a ≤ 1000000000000) (hb : 0 < b) (hb2 : b ≤ 1000000000000) (hQ : nearI a b = Q) :
    Calls Tryd.prog 13 #[.int .i64 (-a), .int .i64 b] w fun e w' => e = .returned (.int .i64 (-Q)) ∧ Below w.heap.size w w' := by
  rw [← hQ, ← near_neg a b hb]
  exact div_some (-a) b w (by omega) (by omega) hb hb2
theorem blend_some (y z x : Int) (w : World) (hy : -2500 ≤ y ∧ y ≤ 2500) (hz : -2500 ≤ z ∧ z ≤ 2500) (hx : 0 ≤ x ∧ x ≤ 1000) :
    Calls Tryd.prog 16 #[.int .i64 0, .int .i64 y, .int .i64 1000, .int .i64 z, .int .i64 x] w fun e w' => (∃ v : Int, min y z ≤ v ∧ v ≤ max y z ∧ e = .returned (.int .i64 v)) ∧ Below w.heap.size w w' :=
  (blend_impl 0 y 1000 z x w).mono fun _ _ ⟨he, hb⟩ => ⟨⟨_, (blend_between y z x hy hz hx).1, (blend_between y z x hy hz hx).2, he⟩, hb⟩
theorem blend_at0 (y z : Int) (w : World) (hy : -2500 ≤ y ∧ y ≤ 2500) (hz : -2500 ≤ z ∧ z ≤ 2500) :
    Calls Tryd.prog 16 #[.int .i64 0, .int .i64 y, .int .i64 1000, .int .i64 z, .int .i64 0] w fun e w' => e = .returned (.int .i64 y) ∧ Below w.heap.size w w' := by
  have := blend_impl 0 y 1000 z 0 w
  rw [blend_0 y z hy hz] at this
  exact this
theorem blend_at1000 (y z : Int) (w : World) (hy : -2500 ≤ y ∧ y ≤ 2500) (hz : -2500 ≤ z ∧ z ≤ 2500) :
    Calls Tryd.prog 16 #[.int .i64 0, .int .i64 y, .int .i64 1000, .int .i64 z, .int .i64 1000] w fun e w' => e = .returned (.int .i64 z) ∧ Below w.heap.size w w' := by
  have := blend_impl 0 y 1000 z 1000 w
  rw [blend_1000 y z hy hz] at this
  exact this
theorem five_fit (a b x y z : Int) (ha : -1000000000000 ≤ a ∧ a ≤ 1000000000000) (hb : -1000000000000 ≤ b ∧ b ≤ 1000000000000) (hx : -1000000000000 ≤ x ∧ x ≤ 1000000000000) (hy : -1000000000000 ≤ y ∧ y ≤ 1000000000000) (hz : -1000000000000 ≤ z ∧ z ≤ 1000000000000) :
    listR [a, b, x, y, z] = jn [a, b, x, y, z] ∧ rlB (jn [a, b, x, y, z]) = true ∧ rlL (jn [a, b, x, y, z]) = [a, b, x, y, z] := by
  have hz' : ∀ t ∈ [a, b, x, y, z], -1000000000000 ≤ t ∧ t ≤ 1000000000000 := by
    intro t ht
    simp only [List.mem_cons, List.mem_nil_iff, or_false] at ht
    rcases ht with rfl | rfl | rfl | rfl | rfl <;> assumption
  refine ⟨?_, list_back _ (by simp) (by simp) hz'⟩
  have hw : wiI 1000000000000 [a, b, x, y, z] = true := by
    unfold wiI
    rw [List.all_eq_true]
    intro t ht
    have := hz' t ht
    simp [this.1, this.2]
  unfold listR fitB
  rw [hw]
  rfl
theorem ints5 (a b x y z : Int) (t : TypeId) (w : World) : IntsAt (w.alloc (.cells #[.int .i64 a, .int .i64 b, .int .i64 x, .int .i64 y, .int .i64 z] t)) w.heap.size [a, b, x, y, z] := by
  refine ⟨by simp, fun j hj => ?_⟩
  match j, hj with
  | 0, _ => simp
  | 1, _ => simp
  | 2, _ => simp
  | 3, _ => simp
  | 4, _ => simp
theorem text5 (zs : List Int) (t : List UInt8) (b : Nat) (w : World) (h1 : IntsAt w b zs) (hl : zs.length = 5) (ht : TabOk w) (hr : listR zs = t) :
    Calls Tryd.prog 18 #[.slice (some ⟨b, 0, none⟩) 5 5] w fun e w' => e = .returned (.string (tb t)) ∧ Below w.heap.size w w' := by
  have := listText_impl b 5 zs w (by omega) h1 ht
  rw [hl, hr] at this
  exact this
theorem read5 (t : List UInt8) (zs : List Int) (w : World) (hs : t.length ≤ 1048576) (hN : NumOk w) (hM : MaxOk w) (h1 : rlB t = true) (h2 : rlL t = zs) (hl : zs.length = 5) :
    Calls Tryd.prog 17 #[.string (tb t)] w fun e w' => ∃ g cap, e = .returned (.tuple #[.slice (some ⟨g, 0, none⟩) 5 cap, .bool true]) ∧ IntsAt w' g zs ∧ Below w.heap.size w w' := by
  refine (readList_impl (tb t) w (by rw [tb_size]; exact hs) hN hM).mono ?_
  intro e w' hp
  rw [tb_data] at hp
  obtain ⟨v, rfl, ho, hb⟩ := rdPost_zs hp h2 h1
  obtain ⟨g, cap, rfl, _, hg, _⟩ := own_shape ho (by omega)
  refine ⟨g, cap, by rw [hl], ⟨hg, fun j hj => ?_⟩, hb⟩
  rw [ho.cellAt j (by omega)]
  simp [hj]
theorem number_back (a : Int) (w : World) (h1 : -1000000000000 ≤ a) (h2 : a ≤ 1000000000000) (hN : NumOk w) :
    Calls Tryd.prog 19 #[.string (tb (Lib.itoa a))] w fun e w' => e = .returned (.tuple #[.int .i64 a, .bool true]) ∧ Below w.heap.size w w' := by
  have := number_tbI (Lib.itoa a) w (by have := itoa_13 a h1 h2; omega) hN
  rw [num_back a h1 h2] at this
  exact this

set_option maxRecDepth 100000 in
set_option maxHeartbeats 4000000 in
theorem basics (a1 a2 : Option Addr) (n1 n2 k1 k2 : Nat) (w : World) (hn1 : n1 ≤ 1048576) (hn2 : n2 ≤ 1048576) (hv1 : BView w a1 n1) (hv2 : BView w a2 n2) (hN : NumOk w) (hM : MaxOk w) :
    Calls Tryd.prog 3 #[.slice a1 n1 k1, .slice a2 n2 k2] w fun e w' => e = .returned (.bool true) ∧ Below w.heap.size w w' := by
  have HV1 := Lib.hid hv1
  have HV2 := Lib.hid hv2
  have HN := Lib.hid hN
  have HM := Lib.hid hM
  clear hv1 hv2 hN hM
  go_enter Tryd.func3, Tryd.ntmps3
  go_wp2_with fail
  refine (long_no _ _ _ _ _ _ _ hn1 hn2).mono ?_
  rintro e w0 ⟨rfl, rfl⟩
  go_wp2_with fail
  refine (nums_any _ _ _ _ hn1 HV1.out).mono ?_
  rintro e w1 ⟨⟨a, b, ha0, ha1, hb0, hb1, rfl⟩, hw1⟩
  have HW1 := Lib.hid hw1
  clear hw1
  go_wp2_with fail
  refine (root_impl _ _ (by omega)).mono ?_
  rintro e w1' ⟨rfl, rfl⟩
  have hcase : (a < 0 ∧ rootI a = 0) ∨ (0 ≤ a ∧ 0 ≤ rootI a ∧ rootI a ≤ 60000 ∧ rootI a * rootI a ≤ a ∧ a < (rootI a + 1) * (rootI a + 1)) := by
    by_cases h : a < 0
    · exact Or.inl ⟨h, root_neg a h⟩
    · exact Or.inr ⟨by omega, root_facts a (by omega) ha1⟩
  generalize rootI a = R at *
  have hq := near_half a b (by omega)
  obtain ⟨Q, hQ⟩ : ∃ Q, nearI a b = Q := ⟨_, rfl⟩
  have hqq := near_bd a b (by omega) (by omega)
  rw [hQ] at hq hqq
  have HQ := Lib.hid hQ
  clear hQ
  have hqb : -3700000000 ≤ Q * b ∧ Q * b ≤ 3700000000 := by omega
  rcases hcase with ⟨hneg, rfl⟩ | ⟨hpos, hR0, hR1, hR2, hR3⟩
  · go_wp2_with fail
    refine (div_q a b Q _ (by omega) (by omega) (by omega) (by omega) HQ.out).mono ?_
    rintro e w2 ⟨rfl, hw2⟩
    have HW2 := Lib.hid (HW1.out.trans (hw2.mono HW1.out.size))
    clear hw2
    go_wp2_with fail
    refine (abs_lt _ b _ hb1 (by omega) (by omega)).mono ?_
    rintro e w2' ⟨⟨m, hm0, hm1, rfl⟩, rfl⟩
    go_wp2_with fail
    refine (div_neg a b Q _ (by omega) (by omega) (by omega) (by omega) HQ.out).mono ?_
    rintro e w3 ⟨rfl, hw3⟩
    have HW3 := Lib.hid (HW2.out.trans (hw3.mono HW2.out.size))
    have HV3 := Lib.hid (HV2.out.below HW3.out (Nat.le_refl _))
    clear hw3
    go_wp2_with fail
    refine (wide_any _ _ _ 0 1000 _ hn2 (by omega) (by omega) (by omega) (by omega) HV3.out).mono ?_
    rintro e w3' ⟨⟨x, hx0, hx1, rfl⟩, rfl⟩
    go_wp2_with fail
    refine (wide_any _ _ _ 2 5000 _ hn2 (by omega) (by omega) (by omega) (by omega) HV3.out).mono ?_
    rintro e w3' ⟨⟨y0, hy0, hy1, rfl⟩, rfl⟩
    go_wp2_with fail
    refine (wide_any _ _ _ 4 5000 _ hn2 (by omega) (by omega) (by omega) (by omega) HV3.out).mono ?_
    rintro e w3' ⟨⟨z0, hz0, hz1, rfl⟩, rfl⟩
    go_wp2_with fail
    refine (blend_some _ _ x _ (by omega) (by omega) (by omega)).mono ?_
    rintro e w4 ⟨⟨v, hv0, hv1, rfl⟩, hw4⟩
    have HW4 := Lib.hid (HW3.out.trans (hw4.mono HW3.out.size))
    clear hw4
    generalize hyd : y0 - 2500 = y at *
    generalize hzd : z0 - 2500 = z at *
    have hyb : -2500 ≤ y ∧ y ≤ 2500 := by omega
    have hzb : -2500 ≤ z ∧ z ≤ 2500 := by omega
    clear hyd hzd hy0 hy1 hz0 hz1
    rcases Int.le_total y z with hyz | hyz
    all_goals
      go_wp2_with fail
      refine (blend_at0 _ _ _ hyb hzb).mono ?_
      rintro e w5 ⟨rfl, hw5⟩
      have HW5 := Lib.hid (HW4.out.trans (hw5.mono HW4.out.size))
      clear hw5
      go_wp2_with fail
      refine (blend_at1000 _ _ _ hyb hzb).mono ?_
      rintro e w6 ⟨rfl, hw6⟩
      have HW6 := Lib.hid (HW5.out.trans (hw6.mono HW5.out.size))
      clear hw6
      have h5 := five_fit a b x y z (by omega) (by omega) (by omega) (by omega) (by omega)
      have HI6 := Lib.hid (ints5 a b x y z 2 w6)
      have HA6 : Hid (Below w.heap.size w (w6.alloc (.cells #[.int .i64 a, .int .i64 b, .int .i64 x, .int .i64 y, .int .i64 z] 2))) := Lib.hid (HW6.out.alloc HW6.out.size _)
      have hjl : (jn [a, b, x, y, z]).length ≤ 105 := by
        have hw : wiI 1000000000000 [a, b, x, y, z] = true := by
          unfold wiI
          simp
          omega
        have := jn_len [a, b, x, y, z] hw 5 (by simp)
        simpa using this
      obtain ⟨T, hT⟩ : ∃ T, jn [a, b, x, y, z] = T := ⟨_, rfl⟩
      rw [hT] at h5 hjl
      have H5 := Lib.hid h5
      clear h5 hT
      go_wp2_with fail
      refine (text5 [a, b, x, y, z] T _ _ HI6.out rfl (HN.out.tab.below HA6.out (Nat.le_refl _)) H5.out.1).mono ?_
      rintro e w7 ⟨rfl, hw7⟩
      have HW7 := Lib.hid (HA6.out.trans (hw7.mono HA6.out.size))
      have HI7 := Lib.hid (HI6.out.below hw7 (Nat.le_refl _))
      clear hw7
      go_wp2_with fail
      refine (read5 T [a, b, x, y, z] _ (by omega) (HN.out.below HW7.out (Nat.le_refl _)) (HM.out.below HW7.out (Nat.le_refl _)) H5.out.2.1 H5.out.2.2 rfl).mono ?_
      rintro e w8 ⟨g, cap, rfl, hi8, hw8⟩
      have HW8 := Lib.hid (HW7.out.trans (hw8.mono HW7.out.size))
      have HI8 := Lib.hid (HI7.out.below hw8 (Nat.le_refl _))
      have HG8 := Lib.hid hi8
      clear hw8 hi8
      go_wp2_with fail
      refine (decimal_tb a _ (by omega) (by omega) (HN.out.tab.below HW8.out (Nat.le_refl _))).mono ?_
      rintro e w9 ⟨rfl, hw9⟩
      have HW9 := Lib.hid (HW8.out.trans (hw9.mono HW8.out.size))
      have HI9 := Lib.hid (HI8.out.below hw9 (Nat.le_refl _))
      have HG9 := Lib.hid (HG8.out.below hw9 (Nat.le_refl _))
      clear hw9
      go_wp2_with fail
      refine (number_back a _ (by omega) (by omega) (HN.out.below HW9.out (Nat.le_refl _))).mono ?_
      rintro e w10 ⟨rfl, hw10⟩
      have HW10 := Lib.hid (HW9.out.trans (hw10.mono HW9.out.size))
      have HI10 := Lib.hid (HI9.out.below hw10 (Nat.le_refl _))
      have HG10 := Lib.hid (HG9.out.below hw10 (Nat.le_refl _))
      clear hw10
      go_wp2_with fail
      refine (same_yes g w6.heap.size cap 5 [a, b, x, y, z] _ (by simp) HG10.out HI10.out).mono ?_
      rintro e w11 ⟨rfl, n, rfl⟩
      go_wp2
      go_ret
      exact ⟨rfl, HW10.out.trans (drew_below w10 n _)⟩
  · have t1 : decide (a < R * R) = false := by simpa using hR2
    have t2 : decide ((R + 1) * (R + 1) ≤ a) = false := by simpa using hR3
    have t3 : (R + 1) * (R + 1) ≤ 4000000000 := by
      have := Int.mul_le_mul (show R + 1 ≤ 60001 by omega) (show R + 1 ≤ 60001 by omega) (by omega) (by omega)
      omega
    have t4 : 0 ≤ R * R := Int.mul_nonneg hR0 hR0
    go_wp2_with fail
    refine (div_q a b Q _ (by omega) (by omega) (by omega) (by omega) HQ.out).mono ?_
    rintro e w2 ⟨rfl, hw2⟩
    have HW2 := Lib.hid (HW1.out.trans (hw2.mono HW1.out.size))
    clear hw2
    go_wp2_with fail
    refine (abs_lt _ b _ hb1 (by omega) (by omega)).mono ?_
    rintro e w2' ⟨⟨m, hm0, hm1, rfl⟩, rfl⟩
    go_wp2_with fail
    refine (div_neg a b Q _ (by omega) (by omega) (by omega) (by omega) HQ.out).mono ?_
    rintro e w3 ⟨rfl, hw3⟩
    have HW3 := Lib.hid (HW2.out.trans (hw3.mono HW2.out.size))
    have HV3 := Lib.hid (HV2.out.below HW3.out (Nat.le_refl _))
    clear hw3
    go_wp2_with fail
    refine (wide_any _ _ _ 0 1000 _ hn2 (by omega) (by omega) (by omega) (by omega) HV3.out).mono ?_
    rintro e w3' ⟨⟨x, hx0, hx1, rfl⟩, rfl⟩
    go_wp2_with fail
    refine (wide_any _ _ _ 2 5000 _ hn2 (by omega) (by omega) (by omega) (by omega) HV3.out).mono ?_
    rintro e w3' ⟨⟨y0, hy0, hy1, rfl⟩, rfl⟩
    go_wp2_with fail
    refine (wide_any _ _ _ 4 5000 _ hn2 (by omega) (by omega) (by omega) (by omega) HV3.out).mono ?_
    rintro e w3' ⟨⟨z0, hz0, hz1, rfl⟩, rfl⟩
    go_wp2_with fail
    refine (blend_some _ _ x _ (by omega) (by omega) (by omega)).mono ?_
    rintro e w4 ⟨⟨v, hv0, hv1, rfl⟩, hw4⟩
    have HW4 := Lib.hid (HW3.out.trans (hw4.mono HW3.out.size))
    clear hw4
    generalize hyd : y0 - 2500 = y at *
    generalize hzd : z0 - 2500 = z at *
    have hyb : -2500 ≤ y ∧ y ≤ 2500 := by omega
    have hzb : -2500 ≤ z ∧ z ≤ 2500 := by omega
    clear hyd hzd hy0 hy1 hz0 hz1
    rcases Int.le_total y z with hyz | hyz
    all_goals
      go_wp2_with fail
      refine (blend_at0 _ _ _ hyb hzb).mono ?_
      rintro e w5 ⟨rfl, hw5⟩
      have HW5 := Lib.hid (HW4.out.trans (hw5.mono HW4.out.size))
      clear hw5
      go_wp2_with fail
      refine (blend_at1000 _ _ _ hyb hzb).mono ?_
      rintro e w6 ⟨rfl, hw6⟩
      have HW6 := Lib.hid (HW5.out.trans (hw6.mono HW5.out.size))
      clear hw6
      have h5 := five_fit a b x y z (by omega) (by omega) (by omega) (by omega) (by omega)
      have HI6 := Lib.hid (ints5 a b x y z 2 w6)
      have HA6 : Hid (Below w.heap.size w (w6.alloc (.cells #[.int .i64 a, .int .i64 b, .int .i64 x, .int .i64 y, .int .i64 z] 2))) := Lib.hid (HW6.out.alloc HW6.out.size _)
      have hjl : (jn [a, b, x, y, z]).length ≤ 105 := by
        have hw : wiI 1000000000000 [a, b, x, y, z] = true := by
          unfold wiI
          simp
          omega
        have := jn_len [a, b, x, y, z] hw 5 (by simp)
        simpa using this
      obtain ⟨T, hT⟩ : ∃ T, jn [a, b, x, y, z] = T := ⟨_, rfl⟩
      rw [hT] at h5 hjl
      have H5 := Lib.hid h5
      clear h5 hT
      go_wp2_with fail
      refine (text5 [a, b, x, y, z] T _ _ HI6.out rfl (HN.out.tab.below HA6.out (Nat.le_refl _)) H5.out.1).mono ?_
      rintro e w7 ⟨rfl, hw7⟩
      have HW7 := Lib.hid (HA6.out.trans (hw7.mono HA6.out.size))
      have HI7 := Lib.hid (HI6.out.below hw7 (Nat.le_refl _))
      clear hw7
      go_wp2_with fail
      refine (read5 T [a, b, x, y, z] _ (by omega) (HN.out.below HW7.out (Nat.le_refl _)) (HM.out.below HW7.out (Nat.le_refl _)) H5.out.2.1 H5.out.2.2 rfl).mono ?_
      rintro e w8 ⟨g, cap, rfl, hi8, hw8⟩
      have HW8 := Lib.hid (HW7.out.trans (hw8.mono HW7.out.size))
      have HI8 := Lib.hid (HI7.out.below hw8 (Nat.le_refl _))
      have HG8 := Lib.hid hi8
      clear hw8 hi8
      go_wp2_with fail
      refine (decimal_tb a _ (by omega) (by omega) (HN.out.tab.below HW8.out (Nat.le_refl _))).mono ?_
      rintro e w9 ⟨rfl, hw9⟩
      have HW9 := Lib.hid (HW8.out.trans (hw9.mono HW8.out.size))
      have HI9 := Lib.hid (HI8.out.below hw9 (Nat.le_refl _))
      have HG9 := Lib.hid (HG8.out.below hw9 (Nat.le_refl _))
      clear hw9
      go_wp2_with fail
      refine (number_back a _ (by omega) (by omega) (HN.out.below HW9.out (Nat.le_refl _))).mono ?_
      rintro e w10 ⟨rfl, hw10⟩
      have HW10 := Lib.hid (HW9.out.trans (hw10.mono HW9.out.size))
      have HI10 := Lib.hid (HI9.out.below hw10 (Nat.le_refl _))
      have HG10 := Lib.hid (HG9.out.below hw10 (Nat.le_refl _))
      clear hw10
      go_wp2_with fail
      refine (same_yes g w6.heap.size cap 5 [a, b, x, y, z] _ (by simp) HG10.out HI10.out).mono ?_
      rintro e w11 ⟨rfl, n, rfl⟩
      go_wp2
      go_ret
      exact ⟨rfl, HW10.out.trans (drew_below w10 n _)⟩
end Go.Proofs.YtglbbpcdodlnmaaDoor
