/- Polygons of spec: do two segments meet, is a list of points a polygon. -/
import Derived.Test.YtjhmpmaademdcaaK1
namespace Go.Proofs.Ytjhmpmaademdcaa
open Go.ChangeShapes Go.WideShapes Go.ChangeAt Go.RowKit
set_option linter.unusedVariables false

set_option maxHeartbeats 1000000 in
theorem meet_spec (xa ya xb yb xc yc xd yd : Int) (w : World) (ha : okI xa ya = true) (hb : okI xb yb = true) (hc : okI xc yc = true) (hd : okI xd yd = true) :
    Calls Try.prog 131 #[.agg #[.int .i64 xa, .int .i64 ya], .agg #[.int .i64 xb, .int .i64 yb], .agg #[.int .i64 xc, .int .i64 yc], .agg #[.int .i64 xd, .int .i64 yd]] w fun e w' => e = .returned (.bool (tcB xa ya xb yb xc yc xd yd)) ∧ Below w.heap.size w w' := by
  have HA := Lib.hid ha
  have HB := Lib.hid hb
  have HC := Lib.hid hc
  have HD := Lib.hid hd
  clear ha hb hc hd
  cases c0 : csB xa ya xb yb xc yc xd yd
  rotate_left
  · have hs : tcB xa ya xb yb xc yc xd yd = true := by simp [tcB, c0]
    rw [hs]; clear hs
    go_enter Try.func131, Try.ntmps131
    go_wp2_with fail
    refine (crosses_spec _ _ _ _ _ _ _ _ _ HA.out HB.out HC.out HD.out).mono ?_
    rintro e w1 ⟨rfl, g1⟩
    obtain ⟨k1, q1⟩ := bcell g1
    have HW1 := Lib.hid g1
    clear g1
    clear k1 q1
    go_wp2
    go_ret
    exact ⟨rfl, bseq (four_allocs _ _ _ _) HW1.out⟩
  cases c1 : onB xa ya xb yb xc yc
  rotate_left
  · have hs : tcB xa ya xb yb xc yc xd yd = true := by simp [tcB, c0, c1]
    rw [hs]; clear hs
    go_enter Try.func131, Try.ntmps131
    go_wp2_with fail
    refine (crosses_spec _ _ _ _ _ _ _ _ _ HA.out HB.out HC.out HD.out).mono ?_
    rintro e w1 ⟨rfl, g1⟩
    obtain ⟨k1, q1⟩ := bcell g1
    have HW1 := Lib.hid g1
    clear g1
    go_wp2_with fail
    refine (on_spec _ _ _ _ _ _ _ HA.out HB.out HC.out).mono ?_
    rintro e w2 ⟨rfl, g2⟩
    obtain ⟨k2, q2⟩ := bcell (bseq HW1.out g2)
    have HW2 := Lib.hid (bseq HW1.out g2)
    clear g2 k1 q1
    clear k2 q2
    go_wp2
    go_ret
    exact ⟨rfl, bseq (four_allocs _ _ _ _) HW2.out⟩
  cases c2 : onB xa ya xb yb xd yd
  rotate_left
  · have hs : tcB xa ya xb yb xc yc xd yd = true := by simp [tcB, c0, c1, c2]
    rw [hs]; clear hs
    go_enter Try.func131, Try.ntmps131
    go_wp2_with fail
    refine (crosses_spec _ _ _ _ _ _ _ _ _ HA.out HB.out HC.out HD.out).mono ?_
    rintro e w1 ⟨rfl, g1⟩
    obtain ⟨k1, q1⟩ := bcell g1
    have HW1 := Lib.hid g1
    clear g1
    go_wp2_with fail
    refine (on_spec _ _ _ _ _ _ _ HA.out HB.out HC.out).mono ?_
    rintro e w2 ⟨rfl, g2⟩
    obtain ⟨k2, q2⟩ := bcell (bseq HW1.out g2)
    have HW2 := Lib.hid (bseq HW1.out g2)
    clear g2 k1 q1
    go_wp2_with fail
    refine (on_spec _ _ _ _ _ _ _ HA.out HB.out HD.out).mono ?_
    rintro e w3 ⟨rfl, g3⟩
    obtain ⟨k3, q3⟩ := bcell (bseq HW2.out g3)
    have HW3 := Lib.hid (bseq HW2.out g3)
    clear g3 k2 q2
    clear k3 q3
    go_wp2
    go_ret
    exact ⟨rfl, bseq (four_allocs _ _ _ _) HW3.out⟩
  cases c3 : onB xc yc xd yd xa ya
  rotate_left
  · have hs : tcB xa ya xb yb xc yc xd yd = true := by simp [tcB, c0, c1, c2, c3]
    rw [hs]; clear hs
    go_enter Try.func131, Try.ntmps131
    go_wp2_with fail
    refine (crosses_spec _ _ _ _ _ _ _ _ _ HA.out HB.out HC.out HD.out).mono ?_
    rintro e w1 ⟨rfl, g1⟩
    obtain ⟨k1, q1⟩ := bcell g1
    have HW1 := Lib.hid g1
    clear g1
    go_wp2_with fail
    refine (on_spec _ _ _ _ _ _ _ HA.out HB.out HC.out).mono ?_
    rintro e w2 ⟨rfl, g2⟩
    obtain ⟨k2, q2⟩ := bcell (bseq HW1.out g2)
    have HW2 := Lib.hid (bseq HW1.out g2)
    clear g2 k1 q1
    go_wp2_with fail
    refine (on_spec _ _ _ _ _ _ _ HA.out HB.out HD.out).mono ?_
    rintro e w3 ⟨rfl, g3⟩
    obtain ⟨k3, q3⟩ := bcell (bseq HW2.out g3)
    have HW3 := Lib.hid (bseq HW2.out g3)
    clear g3 k2 q2
    go_wp2_with fail
    refine (on_spec _ _ _ _ _ _ _ HC.out HD.out HA.out).mono ?_
    rintro e w4 ⟨rfl, g4⟩
    obtain ⟨k4, q4⟩ := bcell (bseq HW3.out g4)
    have HW4 := Lib.hid (bseq HW3.out g4)
    clear g4 k3 q3
    clear k4 q4
    go_wp2
    go_ret
    exact ⟨rfl, bseq (four_allocs _ _ _ _) HW4.out⟩
  cases c4 : onB xc yc xd yd xb yb
  rotate_left
  · have hs : tcB xa ya xb yb xc yc xd yd = true := by simp [tcB, c0, c1, c2, c3, c4]
    rw [hs]; clear hs
    go_enter Try.func131, Try.ntmps131
    go_wp2_with fail
    refine (crosses_spec _ _ _ _ _ _ _ _ _ HA.out HB.out HC.out HD.out).mono ?_
    rintro e w1 ⟨rfl, g1⟩
    obtain ⟨k1, q1⟩ := bcell g1
    have HW1 := Lib.hid g1
    clear g1
    go_wp2_with fail
    refine (on_spec _ _ _ _ _ _ _ HA.out HB.out HC.out).mono ?_
    rintro e w2 ⟨rfl, g2⟩
    obtain ⟨k2, q2⟩ := bcell (bseq HW1.out g2)
    have HW2 := Lib.hid (bseq HW1.out g2)
    clear g2 k1 q1
    go_wp2_with fail
    refine (on_spec _ _ _ _ _ _ _ HA.out HB.out HD.out).mono ?_
    rintro e w3 ⟨rfl, g3⟩
    obtain ⟨k3, q3⟩ := bcell (bseq HW2.out g3)
    have HW3 := Lib.hid (bseq HW2.out g3)
    clear g3 k2 q2
    go_wp2_with fail
    refine (on_spec _ _ _ _ _ _ _ HC.out HD.out HA.out).mono ?_
    rintro e w4 ⟨rfl, g4⟩
    obtain ⟨k4, q4⟩ := bcell (bseq HW3.out g4)
    have HW4 := Lib.hid (bseq HW3.out g4)
    clear g4 k3 q3
    go_wp2_with fail
    refine (on_spec _ _ _ _ _ _ _ HC.out HD.out HB.out).mono ?_
    rintro e w5 ⟨rfl, g5⟩
    obtain ⟨k5, q5⟩ := bcell (bseq HW4.out g5)
    have HW5 := Lib.hid (bseq HW4.out g5)
    clear g5 k4 q4
    clear k5 q5
    go_wp2
    go_ret
    exact ⟨rfl, bseq (four_allocs _ _ _ _) HW5.out⟩
  have hs : tcB xa ya xb yb xc yc xd yd = false := by simp [tcB, c0, c1, c2, c3, c4]
  rw [hs]; clear hs
  go_enter Try.func131, Try.ntmps131
  go_wp2_with fail
  refine (crosses_spec _ _ _ _ _ _ _ _ _ HA.out HB.out HC.out HD.out).mono ?_
  rintro e w1 ⟨rfl, g1⟩
  obtain ⟨k1, q1⟩ := bcell g1
  have HW1 := Lib.hid g1
  clear g1
  go_wp2_with fail
  refine (on_spec _ _ _ _ _ _ _ HA.out HB.out HC.out).mono ?_
  rintro e w2 ⟨rfl, g2⟩
  obtain ⟨k2, q2⟩ := bcell (bseq HW1.out g2)
  have HW2 := Lib.hid (bseq HW1.out g2)
  clear g2 k1 q1
  go_wp2_with fail
  refine (on_spec _ _ _ _ _ _ _ HA.out HB.out HD.out).mono ?_
  rintro e w3 ⟨rfl, g3⟩
  obtain ⟨k3, q3⟩ := bcell (bseq HW2.out g3)
  have HW3 := Lib.hid (bseq HW2.out g3)
  clear g3 k2 q2
  go_wp2_with fail
  refine (on_spec _ _ _ _ _ _ _ HC.out HD.out HA.out).mono ?_
  rintro e w4 ⟨rfl, g4⟩
  obtain ⟨k4, q4⟩ := bcell (bseq HW3.out g4)
  have HW4 := Lib.hid (bseq HW3.out g4)
  clear g4 k3 q3
  go_wp2_with fail
  refine (on_spec _ _ _ _ _ _ _ HC.out HD.out HB.out).mono ?_
  rintro e w5 ⟨rfl, g5⟩
  obtain ⟨k5, q5⟩ := bcell (bseq HW4.out g5)
  have HW5 := Lib.hid (bseq HW4.out g5)
  clear g5 k4 q4
  clear k5 q5
  go_wp2
  go_ret
  exact ⟨rfl, bseq (four_allocs _ _ _ _) HW5.out⟩
theorem mod_tm (k c n : Nat) (hn : 0 < n) : ((k : Int) + (c : Int)).tmod (n : Int) = (((k + c) % n : Nat) : Int) := by
  rw [Int.tmod_eq_emod_of_nonneg (by omega)]; simp
theorem three_boxes (w : World) (a0 a1 b0 b1 c0 c1 : Value) (T : TypeId) (w' : World) (h : Below (((w.alloc (.cells #[a0, a1] T)).alloc (.cells #[b0, b1] T)).alloc (.cells #[c0, c1] T)).heap.size (((w.alloc (.cells #[a0, a1] T)).alloc (.cells #[b0, b1] T)).alloc (.cells #[c0, c1] T)) w') :
    w'.cell? ⟨w.heap.size, 0, none⟩ = some a0 ∧ w'.cell? ⟨w.heap.size, 1, none⟩ = some a1 ∧ w'.cell? ⟨w.heap.size + 1, 0, none⟩ = some b0 ∧ w'.cell? ⟨w.heap.size + 1, 1, none⟩ = some b1 ∧ w.heap.size + 2 < w'.heap.size := by
  obtain ⟨hc, hf⟩ := bcell h
  refine ⟨?_, ?_, ?_, ?_, ?_⟩
  · rw [hc _ _ (by simp <;> omega)]; go_simp
  · rw [hc _ _ (by simp <;> omega)]; go_simp
  · rw [hc _ _ (by simp <;> omega)]; go_simp
  · rw [hc _ _ (by simp <;> omega)]; go_simp
  · have := h.size; simp at this; omega
/-- What the outer loop has seen. -/
def SeenTo (zs : List P2) (i : Nat) : Prop := allTo (goOk zs) i = true ∧ allTo (fun i => allTo (cellOk zs i) zs.length) i = true
theorem cell_skip {zs : List P2} {i k : Nat} (h : (k + 1) % zs.length = i) : cellOk zs i k = true := by
  unfold cellOk
  rw [show decide ((k + 1) % zs.length ≠ i) = false by simp [h]]; simp
theorem allTo_succ {f : Nat → Bool} {k : Nat} (h : allTo f k = true) (hk : f k = true) : allTo f (k + 1) = true := by
  show (allTo f k && f k) = true
  rw [h, hk]; rfl
theorem seen_succ {zs : List P2} {i k : Nat} (h : SeenTo zs i) (hg : goOk zs i = true) (hk : zs.length ≤ k) (hc : allTo (cellOk zs i) k = true) : SeenTo zs (i + 1) :=
  ⟨allTo_succ h.1 hg, allTo_succ h.2 (allTo_ok fun j hj => (allTo_iff _ _).1 hc j (by omega))⟩
theorem seen_bad_go {zs : List P2} {i : Nat} (hi : i < zs.length) (h : goOk zs i = false) : polyB zs = false := by
  unfold polyB
  rw [show goB zs = false from allTo_bad hi h]
  simp
theorem seen_bad_cell {zs : List P2} {i k : Nat} (hi : i < zs.length) (hk : k < zs.length) (h : cellOk zs i k = false) : polyB zs = false := by
  unfold polyB
  rw [show apB zs = false from allTo_bad hi (allTo_bad hk h)]
  simp
theorem cell_low {zs : List P2} {i k : Nat} (h : k < i + 2) : cellOk zs i k = true := by
  unfold cellOk
  rw [decide_eq_false (by omega)]; rfl
theorem cells_low {zs : List P2} {i k : Nat} (h : k ≤ i + 2) : allTo (cellOk zs i) k = true := allTo_ok fun j hj => cell_low (by omega)
theorem seen_all {zs : List P2} (h3 : 3 ≤ zs.length) (h4 : zs.length ≤ 24) (hv : allOk zs = true) {i : Nat} (hi : zs.length ≤ i) (h : SeenTo zs i) : polyB zs = decide (0 < areaI zs) := by
  have e1 : goB zs = true := allTo_ok fun j hj => (allTo_iff _ _).1 h.1 j (by omega)
  have e2 : apB zs = true := allTo_ok fun j hj => (allTo_iff _ _).1 h.2 j (by omega)
  rw [poly_of h3 h4 hv, e1, e2]; rfl
theorem go_val (zs : List P2) (k : Nat) (hk : k < zs.length) (x y u v s t : Int) (h0 : zs.getD k (0, 0) = (x, y)) (h1 : zs.getD ((k + 1) % zs.length) (0, 0) = (u, v)) (h2 : zs.getD ((k + 2) % zs.length) (0, 0) = (s, t)) :
    goOk zs k = !((decide (x = u) && decide (y = v)) || onB x y u v s t || onB u v s t x y) := by
  unfold goOk
  rw [pt_lt hk, h0, pt, h1, pt, h2]; rfl
theorem cell_val (zs : List P2) (i k : Nat) (hi : i < zs.length) (hk : k < zs.length) (hik : i + 2 ≤ k) (x y u v s t p q : Int) (h0 : zs.getD i (0, 0) = (x, y)) (h1 : zs.getD ((i + 1) % zs.length) (0, 0) = (u, v)) (h2 : zs.getD k (0, 0) = (s, t)) (h3 : zs.getD ((k + 1) % zs.length) (0, 0) = (p, q)) :
    cellOk zs i k = !(decide ((k + 1) % zs.length ≠ i) && tcB x y u v s t p q) := by
  unfold cellOk
  rw [pt_lt hi, h0, pt, h1, pt_lt hk, h2, pt, h3, decide_eq_true hik]; rfl
set_option maxRecDepth 100000 in
set_option maxHeartbeats 4000000 in
theorem ok3_spec (b len cap : Nat) (zs : List P2) (w : World) (hz : len = zs.length) (h3 : 3 ≤ len) (hl : len ≤ 24) (hp : PtsAt w b zs) :
    Calls Try.prog 73 #[.slice (some ⟨b, 0, none⟩) len cap] w fun e w' => e = .returned (.bool (polyB zs)) ∧ Below w.heap.size w w' := by
  have HZ := Lib.hid hz
  have HP := Lib.hid hp
  clear hz hp
  go_enter Try.func73, Try.ntmps73
  go_wp2
  go_loopw [4] (fun i wr => ∃ k : Nat, k ≤ len ∧ i = .int .i64 k ∧ Hid (allOk (zs.take k) = true) ∧ Hid (Below w.heap.size w wr)) (fun i _ => len - (intOf i).toNat)
  case atStart => exact ⟨0, by omega, rfl, Lib.hid (by simp [allOk]), Lib.hid (Below.refl _ _)⟩
  case round =>
    obtain ⟨k, hk, rfl, ha, hb⟩ := hrel
    by_cases hlt : k < len
    · have hkz : k < zs.length := by have := HZ.out; omega
      obtain ⟨x, y, e1, c1, c2⟩ := (HP.out.below hb.out HP.out.1).pt hkz
      have HS := Lib.hid (allOk_snoc zs k hkz ha.out)
      have HBad := Lib.hid (allOk_bad zs k hkz)
      rw [e1] at HS HBad
      clear e1
      cases ho : okI x y
      · go_wp2_with fail
        refine (ok_spec _ _ _).mono ?_
        rintro e w1 ⟨rfl, hb1⟩
        have HB1 := Lib.hid hb1
        clear hb1
        rw [ho]
        go_wp2
        go_ret
        exact ⟨ret_bool (poly_bad (HBad.out ho)).symm, (bseq hb.out HB1.out)⟩
      · go_wp2_with fail
        refine (ok_spec _ _ _).mono ?_
        rintro e w1 ⟨rfl, hb1⟩
        have HB1 := Lib.hid hb1
        clear hb1
        rw [ho]
        go_wp2
        go_roundw
        case rel => exact ⟨k + 1, by omega, by go_num, Lib.hid (HS.out ho), Lib.hid (bseq hb.out HB1.out)⟩
        case measure => simp [intOf]; omega
    · have HV := Lib.hid (allOk_end zs k (by have := HZ.out; omega) ha.out)
      have HK : Hid (k = len) := Lib.hid (by omega)
      clear ha
      go_wp2
      go_loopw [5] (fun i wr => ∃ k : Nat, k ≤ len ∧ i = .int .i64 k ∧ Hid (SeenTo zs k) ∧ Hid (Below w.heap.size w wr)) (fun i _ => len - (intOf i).toNat)
      case atStart => exact ⟨0, by omega, rfl, Lib.hid ⟨rfl, rfl⟩, hb⟩
      case round =>
        clear hb HK hlt hk
        obtain ⟨i, hi, rfl, hsn, hb⟩ := hrel
        obtain ⟨wo, hwo⟩ : ∃ wo, wo = wr := ⟨wr, rfl⟩
        subst hwo
        by_cases hlt : i < len
        · have hiz : i < zs.length := by have := HZ.out; omega
          have hj : (i + 1) % zs.length < zs.length := Nat.mod_lt _ (by omega)
          have hl2 : (i + 2) % zs.length < zs.length := Nat.mod_lt _ (by omega)
          have hP := HP.out.below hb.out HP.out.1
          have hbw := hP.1
          have hw := hb.out.size
          obtain ⟨x, y, e1, o1, c1, c2⟩ := hP.ok HV.out hiz
          obtain ⟨u, v, e2, o2, d1, d2⟩ := hP.ok HV.out hj
          obtain ⟨s, t, e3, o3, f1, f2⟩ := hP.ok HV.out hl2
          have HG := Lib.hid (go_val zs i hiz x y u v s t e1 e2 e3)
          have E1 := Lib.hid e1
          have E2 := Lib.hid e2
          have O1 := Lib.hid o1
          have O2 := Lib.hid o2
          have O3 := Lib.hid o3
          rw [← HZ.out] at hj hl2 d1 d2 f1 f2
          have gm1 : ((i : Int) + 1) % (len : Int) = (((i + 1) % len : Nat) : Int) := mod_int i 1 len
          have gm2 : ((i : Int) + 2) % (len : Int) = (((i + 2) % len : Nat) : Int) := mod_int i 2 len
          generalize (i + 1) % len = j at gm1 hj d1 d2
          generalize (i + 2) % len = j2 at gm2 hl2 f1 f2
          have HPP := Lib.hid hP
          clear e1 e2 e3 o1 o2 o3 hP
          have hgo := HG.out
          cases c0 : (decide (x = u) && decide (y = v))
          rotate_left
          · obtain ⟨rfl, rfl⟩ : x = u ∧ y = v := by simpa using c0
            clear hgo c0
            go_wp2
            go_ret
            exact ⟨ret_bool (seen_bad_go hiz (by rw [HG.out]; simp)).symm, (hb.out.trans ((three_allocs _ _ _).mono hw))⟩
          have hxu : x ≠ u ∨ x = u := by omega
          have c0' : ¬ (x = u ∧ y = v) := by simpa using c0
          clear c0
          rcases hxu with hxu | hxu
          rotate_left
          · subst hxu
            have hyv : y ≠ v := fun h => c0' ⟨rfl, h⟩
            clear c0'
            rw [show (decide (x = x) && decide (y = v)) = false by simp; omega, Bool.false_or] at hgo
            have HG2 := Lib.hid hgo
            clear hgo HG
            cases c1 : onB x y x v s t
            rotate_left
            · go_wp2_with fail
              refine (on_spec _ _ _ _ _ _ _ O1.out O2.out O3.out).mono ?_
              rintro e w1 ⟨rfl, hb1⟩
              have HB1 := Lib.hid (bseq ((three_allocs _ _ _).mono (Nat.le_refl _)) hb1)
              rw [c1]
              go_wp2
              go_ret
              exact ⟨ret_bool (seen_bad_go hiz (by rw [HG2.out, c1]; rfl)).symm, bseq hb.out HB1.out⟩
            cases c2 : onB x v s t x y
            rotate_left
            · go_wp2_with fail
              refine (on_spec _ _ _ _ _ _ _ O1.out O2.out O3.out).mono ?_
              rintro e w1 ⟨rfl, hb1⟩
              obtain ⟨k1, q1⟩ := bcell hb1
              have HB1 := Lib.hid (bseq (three_allocs _ _ _) hb1)
              clear hb1
              rw [c1]
              go_wp2_with fail
              refine (on_spec _ _ _ _ _ _ _ O2.out O3.out O1.out).mono ?_
              rintro e w2 ⟨rfl, hb2⟩
              have HB2 := Lib.hid (bseq HB1.out hb2)
              clear hb2
              rw [c2]
              clear k1 q1
              go_wp2
              go_ret
              exact ⟨ret_bool (seen_bad_go hiz (by rw [HG2.out, c1, c2]; rfl)).symm, bseq hb.out HB2.out⟩
            have HG3 := Lib.hid (show goOk zs i = true by rw [HG2.out, c1, c2]; rfl)
            clear HG2
            go_wp2_with fail
            refine (on_spec _ _ _ _ _ _ _ O1.out O2.out O3.out).mono ?_
            rintro e w1 ⟨rfl, hb1⟩
            obtain ⟨k1, q1⟩ := bcell hb1
            have HC1 := Lib.hid hb1
            clear hb1
            rw [c1]
            go_wp2_with fail
            refine (on_spec _ _ _ _ _ _ _ O2.out O3.out O1.out).mono ?_
            rintro e w2 ⟨rfl, hb2⟩
            have HC2 := Lib.hid (bseq HC1.out hb2)
            clear hb2
            rw [c2]
            clear k1 q1
            go_wp2
            go_loopw [9] (fun kv wq => ∃ k : Nat, i + 2 ≤ k ∧ k ≤ len + 2 ∧ kv = .int .i64 k ∧ Hid (allTo (cellOk zs i) k = true) ∧ Hid (Below (((wo.alloc (.cells #[.int .i64 x, .int .i64 y] 30)).alloc (.cells #[.int .i64 x, .int .i64 v] 30)).alloc (.cells #[.int .i64 s, .int .i64 t] 30)).heap.size (((wo.alloc (.cells #[.int .i64 x, .int .i64 y] 30)).alloc (.cells #[.int .i64 x, .int .i64 v] 30)).alloc (.cells #[.int .i64 s, .int .i64 t] 30)) wq)) (fun kv _ => len - (intOf kv).toNat)
            case atStart => exact ⟨i + 2, by omega, by omega, by go_num, Lib.hid (cells_low (Nat.le_refl _)), HC2⟩
            case round =>
              obtain ⟨k, hik, hk2, rfl, hcs, hw3⟩ := hrel
              by_cases hkl : k < len
              · have hkz : k < zs.length := by have := HZ.out; omega
                have hkj : (k + 1) % zs.length < zs.length := Nat.mod_lt _ (by omega)
                have hBW := bseq (three_allocs _ _ _) hw3.out
                have hP := HPP.out.below hBW HPP.out.1
                have hbq := hP.1
                obtain ⟨a0, a1, b0, b1, n2⟩ := three_boxes wo _ _ _ _ _ _ _ _ hw3.out
                have n0 : wo.heap.size < wr.heap.size := by omega
                have n1 : wo.heap.size + 1 < wr.heap.size := by omega
                obtain ⟨x4, y4, e4, o4, r1, r2⟩ := hP.ok HV.out hkz
                obtain ⟨x5, y5, e5, o5, r3, r4⟩ := hP.ok HV.out hkj
                have HCV := Lib.hid (cell_val zs i k hiz hkz hik _ _ _ _ _ _ _ _ E1.out E2.out e4 e5)
                have O4 := Lib.hid o4
                have O5 := Lib.hid o5
                have HGu := Lib.hid (@cell_skip zs i k)
                have ek : IntKind.i64.wrap ((k : Int) + 1) = (k : Int) + 1 := IntWalk.i64_in _ (by omega)
                have gm3 : ((k : Int) + 1) % (len : Int) = (((k + 1) % len : Nat) : Int) := mod_int k 1 len
                have gt3 : ((k : Int) + 1).tmod (len : Int) = (((k + 1) % len : Nat) : Int) := mod_tm k 1 len (by omega)
                rw [← HZ.out] at hkj r3 r4 HCV HGu
                have HCW := HCV
                generalize (k + 1) % len = j3 at gm3 gt3 hkj r3 r4 HCW HGu
                clear e4 e5 o4 o5 hP HCV
                have HBW := Lib.hid hBW
                clear hBW
                have hn0 : len ≠ 0 := by omega
                by_cases hg : j3 = i
                · have hg' : i = j3 := hg.symm
                  subst hg'
                  go_wp2
                  refine wp_region_below (by kernel_rfl) (by kernel_rfl) ?_
                  (refine wq_val (by go_simp) ?_; apply Exists.intro; refine ⟨fun w1 hw1 => ?_, ?_⟩; (obtain ⟨hc, hf⟩ := bcell hw1; clear hw1; go_simp; (try with_reducible rfl)); (try simp only [Act.put, List.setIfInBounds_toArray, List.set_cons_zero, List.set_cons_succ]))
                  (refine wq_val (by go_simp) ?_; apply Exists.intro; refine ⟨fun w1 hw1 => ?_, ?_⟩; (obtain ⟨hc, hf⟩ := bcell hw1; clear hw1; go_simp; (try with_reducible rfl)); (try simp only [Act.put, List.setIfInBounds_toArray, List.set_cons_zero, List.set_cons_succ]))
                  (refine wq_val (by go_simp) ?_; apply Exists.intro; refine ⟨fun w1 hw1 => ?_, ?_⟩; (obtain ⟨hc, hf⟩ := bcell hw1; clear hw1; go_simp; (try with_reducible rfl)); (try simp only [Act.put, List.setIfInBounds_toArray, List.set_cons_zero, List.set_cons_succ]))
                  (refine wq_val (by go_simp) ?_; apply Exists.intro; refine ⟨fun w1 hw1 => ?_, ?_⟩; (obtain ⟨hc, hf⟩ := bcell hw1; clear hw1; go_simp; (try with_reducible rfl)); (try simp only [Act.put, List.setIfInBounds_toArray, List.set_cons_zero, List.set_cons_succ]))
                  (refine wq_val (by go_simp) ?_; apply Exists.intro; refine ⟨fun w1 hw1 => ?_, ?_⟩; (obtain ⟨hc, hf⟩ := bcell hw1; clear hw1; go_simp; (try with_reducible rfl)); (try simp only [Act.put, List.setIfInBounds_toArray, List.set_cons_zero, List.set_cons_succ]))
                  (refine wq_val (by go_simp) ?_; apply Exists.intro; refine ⟨fun w1 hw1 => ?_, ?_⟩; (obtain ⟨hc, hf⟩ := bcell hw1; clear hw1; go_simp; (try with_reducible rfl)); (try simp only [Act.put, List.setIfInBounds_toArray, List.set_cons_zero, List.set_cons_succ]))
                  (refine wq_val (by go_simp) ?_; apply Exists.intro; refine ⟨fun w1 hw1 => ?_, ?_⟩; (obtain ⟨hc, hf⟩ := bcell hw1; clear hw1; go_simp; (try with_reducible rfl)); (try simp only [Act.put, List.setIfInBounds_toArray, List.set_cons_zero, List.set_cons_succ]))
                  (refine wq_skip (by go_simp) ?_; (try simp only [Act.put, List.setIfInBounds_toArray, List.set_cons_zero, List.set_cons_succ]))
                  (refine wq_skip (by go_simp) ?_; (try simp only [Act.put, List.setIfInBounds_toArray, List.set_cons_zero, List.set_cons_succ]))
                  (refine wq_skip (by go_simp) ?_; (try simp only [Act.put, List.setIfInBounds_toArray, List.set_cons_zero, List.set_cons_succ]))
                  (refine wq_skip (by go_simp) ?_; (try simp only [Act.put, List.setIfInBounds_toArray, List.set_cons_zero, List.set_cons_succ]))
                  (refine wq_skip (by go_simp) ?_; (try simp only [Act.put, List.setIfInBounds_toArray, List.set_cons_zero, List.set_cons_succ]))
                  (refine wq_skip (by go_simp) ?_; (try simp only [Act.put, List.setIfInBounds_toArray, List.set_cons_zero, List.set_cons_succ]))
                  (refine wq_skip (by go_simp) ?_; (try simp only [Act.put, List.setIfInBounds_toArray, List.set_cons_zero, List.set_cons_succ]))
                  (refine wq_skip (by go_simp) ?_; (try simp only [Act.put, List.setIfInBounds_toArray, List.set_cons_zero, List.set_cons_succ]))
                  (refine wq_skip (by go_simp) ?_; (try simp only [Act.put, List.setIfInBounds_toArray, List.set_cons_zero, List.set_cons_succ]))
                  (refine wq_skip (by go_simp) ?_; (try simp only [Act.put, List.setIfInBounds_toArray, List.set_cons_zero, List.set_cons_succ]))
                  (refine wq_skip (by go_simp) ?_; (try simp only [Act.put, List.setIfInBounds_toArray, List.set_cons_zero, List.set_cons_succ]))
                  (refine wq_skip (by go_simp) ?_; (try simp only [Act.put, List.setIfInBounds_toArray, List.set_cons_zero, List.set_cons_succ]))
                  (refine wq_skip (by go_simp) ?_; (try simp only [Act.put, List.setIfInBounds_toArray, List.set_cons_zero, List.set_cons_succ]))
                  (refine wq_skip (by go_simp) ?_; (try simp only [Act.put, List.setIfInBounds_toArray, List.set_cons_zero, List.set_cons_succ]))
                  (refine wq_val (by go_simp) ?_; apply Exists.intro; refine ⟨fun w1 hw1 => ?_, ?_⟩; (obtain ⟨hc, hf⟩ := bcell hw1; clear hw1; go_simp; (try with_reducible rfl)); (try simp only [Act.put, List.setIfInBounds_toArray, List.set_cons_zero, List.set_cons_succ]))
                  refine wq_nil ?_
                  intro w9 hb9

                  have HB9 := Lib.hid hb9
                  clear hb9
                  go_wp2
                  go_roundw
                  case rel => exact ⟨k + 1, by omega, by omega, by go_num, Lib.hid (allTo_succ hcs.out (HGu.out trivial)), Lib.hid (bseq hw3.out HB9.out)⟩
                  case measure => simp [intOf]; omega
                · have hn : ((j3 : Int) != (i : Int)) = true := by simp; omega
                  have hn2 : ((j3 : Int) == (i : Int)) = false := by simp; omega
                  have hn3 : decide ((j3 : Int) = (i : Int)) = false := by simp; omega
                  have hcw := HCW.out
                  rw [show decide (j3 ≠ i) = true by simp [hg], Bool.true_and] at hcw
                  have HCX := Lib.hid hcw
                  clear hcw HCW HGu
                  go_wp2
                  refine wp_region_below (by kernel_rfl) (by kernel_rfl) ?_
                  (refine wq_val (by go_simp) ?_; apply Exists.intro; refine ⟨fun w1 hw1 => ?_, ?_⟩; (obtain ⟨hc, hf⟩ := bcell hw1; clear hw1; go_simp; (try with_reducible rfl)); (try simp only [Act.put, List.setIfInBounds_toArray, List.set_cons_zero, List.set_cons_succ]))
                  (refine wq_val (by go_simp) ?_; apply Exists.intro; refine ⟨fun w1 hw1 => ?_, ?_⟩; (obtain ⟨hc, hf⟩ := bcell hw1; clear hw1; go_simp; (try with_reducible rfl)); (try simp only [Act.put, List.setIfInBounds_toArray, List.set_cons_zero, List.set_cons_succ]))
                  (refine wq_val (by go_simp) ?_; apply Exists.intro; refine ⟨fun w1 hw1 => ?_, ?_⟩; (obtain ⟨hc, hf⟩ := bcell hw1; clear hw1; go_simp; (try with_reducible rfl)); (try simp only [Act.put, List.setIfInBounds_toArray, List.set_cons_zero, List.set_cons_succ]))
                  (refine wq_val (by go_simp) ?_; apply Exists.intro; refine ⟨fun w1 hw1 => ?_, ?_⟩; (obtain ⟨hc, hf⟩ := bcell hw1; clear hw1; go_simp; (try with_reducible rfl)); (try simp only [Act.put, List.setIfInBounds_toArray, List.set_cons_zero, List.set_cons_succ]))
                  (refine wq_val (by go_simp) ?_; apply Exists.intro; refine ⟨fun w1 hw1 => ?_, ?_⟩; (obtain ⟨hc, hf⟩ := bcell hw1; clear hw1; go_simp; (try with_reducible rfl)); (try simp only [Act.put, List.setIfInBounds_toArray, List.set_cons_zero, List.set_cons_succ]))
                  (refine wq_val (by go_simp) ?_; apply Exists.intro; refine ⟨fun w1 hw1 => ?_, ?_⟩; (obtain ⟨hc, hf⟩ := bcell hw1; clear hw1; go_simp; (try with_reducible rfl)); (try simp only [Act.put, List.setIfInBounds_toArray, List.set_cons_zero, List.set_cons_succ]))
                  (refine wq_val (by go_simp) ?_; apply Exists.intro; refine ⟨fun w1 hw1 => ?_, ?_⟩; (obtain ⟨hc, hf⟩ := bcell hw1; clear hw1; go_simp; (try with_reducible rfl)); (try simp only [Act.put, List.setIfInBounds_toArray, List.set_cons_zero, List.set_cons_succ]))
                  (refine wq_val (by go_simp) ?_; apply Exists.intro; refine ⟨fun w1 hw1 => ?_, ?_⟩; (obtain ⟨hc, hf⟩ := bcell hw1; clear hw1; go_simp; (try with_reducible rfl)); (try simp only [Act.put, List.setIfInBounds_toArray, List.set_cons_zero, List.set_cons_succ]))
                  (refine wq_val (by go_simp) ?_; apply Exists.intro; refine ⟨fun w1 hw1 => ?_, ?_⟩; (obtain ⟨hc, hf⟩ := bcell hw1; clear hw1; go_simp; (try with_reducible rfl)); (try simp only [Act.put, List.setIfInBounds_toArray, List.set_cons_zero, List.set_cons_succ]))
                  (refine wq_val (by go_simp) ?_; apply Exists.intro; refine ⟨fun w1 hw1 => ?_, ?_⟩; (obtain ⟨hc, hf⟩ := bcell hw1; clear hw1; go_simp; (try with_reducible rfl)); (try simp only [Act.put, List.setIfInBounds_toArray, List.set_cons_zero, List.set_cons_succ]))
                  (refine wq_val (by go_simp) ?_; apply Exists.intro; refine ⟨fun w1 hw1 => ?_, ?_⟩; (obtain ⟨hc, hf⟩ := bcell hw1; clear hw1; go_simp; (try with_reducible rfl)); (try simp only [Act.put, List.setIfInBounds_toArray, List.set_cons_zero, List.set_cons_succ]))
                  (refine wq_val (by go_simp) ?_; apply Exists.intro; refine ⟨fun w1 hw1 => ?_, ?_⟩; (obtain ⟨hc, hf⟩ := bcell hw1; clear hw1; go_simp; (try with_reducible rfl)); (try simp only [Act.put, List.setIfInBounds_toArray, List.set_cons_zero, List.set_cons_succ]))
                  (refine wq_val (by go_simp) ?_; apply Exists.intro; refine ⟨fun w1 hw1 => ?_, ?_⟩; (obtain ⟨hc, hf⟩ := bcell hw1; clear hw1; go_simp; (try with_reducible rfl)); (try simp only [Act.put, List.setIfInBounds_toArray, List.set_cons_zero, List.set_cons_succ]))
                  (refine wq_val (by go_simp) ?_; apply Exists.intro; refine ⟨fun w1 hw1 => ?_, ?_⟩; (obtain ⟨hc, hf⟩ := bcell hw1; clear hw1; go_simp; (try with_reducible rfl)); (try simp only [Act.put, List.setIfInBounds_toArray, List.set_cons_zero, List.set_cons_succ]))
                  (refine wq_val (by go_simp) ?_; apply Exists.intro; refine ⟨fun w1 hw1 => ?_, ?_⟩; (obtain ⟨hc, hf⟩ := bcell hw1; clear hw1; go_simp; (try with_reducible rfl)); (try simp only [Act.put, List.setIfInBounds_toArray, List.set_cons_zero, List.set_cons_succ]))
                  (refine wq_val (by go_simp) ?_; apply Exists.intro; refine ⟨fun w1 hw1 => ?_, ?_⟩; (obtain ⟨hc, hf⟩ := bcell hw1; clear hw1; go_simp; (try with_reducible rfl)); (try simp only [Act.put, List.setIfInBounds_toArray, List.set_cons_zero, List.set_cons_succ]))
                  (refine wq_val (by go_simp) ?_; apply Exists.intro; refine ⟨fun w1 hw1 => ?_, ?_⟩; (obtain ⟨hc, hf⟩ := bcell hw1; clear hw1; go_simp; (try with_reducible rfl)); (try simp only [Act.put, List.setIfInBounds_toArray, List.set_cons_zero, List.set_cons_succ]))
                  (refine wq_val (by go_simp) ?_; apply Exists.intro; refine ⟨fun w1 hw1 => ?_, ?_⟩; (obtain ⟨hc, hf⟩ := bcell hw1; clear hw1; go_simp; (try with_reducible rfl)); (try simp only [Act.put, List.setIfInBounds_toArray, List.set_cons_zero, List.set_cons_succ]))
                  (refine wq_val (by go_simp) ?_; apply Exists.intro; refine ⟨fun w1 hw1 => ?_, ?_⟩; (obtain ⟨hc, hf⟩ := bcell hw1; clear hw1; go_simp; (try with_reducible rfl)); (try simp only [Act.put, List.setIfInBounds_toArray, List.set_cons_zero, List.set_cons_succ]))
                  (refine wq_val (by go_simp) ?_; apply Exists.intro; refine ⟨fun w1 hw1 => ?_, ?_⟩; (obtain ⟨hc, hf⟩ := bcell hw1; clear hw1; go_simp; (try with_reducible rfl)); (try simp only [Act.put, List.setIfInBounds_toArray, List.set_cons_zero, List.set_cons_succ]))
                  (refine wq_call 131 (by go_simp) ?_; apply Exists.intro; refine ⟨fun w1 hw1 => ?_, ?_⟩; (clear hw1; go_simp; (try with_reducible rfl)); apply Exists.intro; refine ⟨fun w1 hw1 => ?_, ?_⟩; (exact calls_below hw1 (meet_spec _ _ _ _ _ _ _ _ _ O1.out O2.out O4.out O5.out)); (try simp only [Act.put, List.setIfInBounds_toArray, List.set_cons_zero, List.set_cons_succ]))
                  (refine wq_val (by go_simp) ?_; apply Exists.intro; refine ⟨fun w1 hw1 => ?_, ?_⟩; (obtain ⟨hc, hf⟩ := bcell hw1; clear hw1; go_simp; (try with_reducible rfl)); (try simp only [Act.put, List.setIfInBounds_toArray, List.set_cons_zero, List.set_cons_succ]))
                  refine wq_nil ?_
                  intro w9 hb9

                  have HB9 := Lib.hid hb9
                  clear hb9
                  cases hm : tcB x y x v x4 y4 x5 y5
                  · rw [hm] at HCX
                    go_wp2
                    go_roundw
                    case rel => exact ⟨k + 1, by omega, by omega, by go_num, Lib.hid (allTo_succ hcs.out HCX.out), Lib.hid (bseq hw3.out HB9.out)⟩
                    case measure => simp [intOf]; omega
                  · rw [hm] at HCX
                    go_wp2
                    go_ret
                    exact ⟨ret_bool (seen_bad_cell hiz hkz HCX.out).symm, (bseq hb.out HBW.out).trans (HB9.out.mono (by have := hb.out.size; have := HBW.out.size; omega))⟩
              · have HSS := Lib.hid (seen_succ hsn.out HG3.out (k := k) (by have := HZ.out; omega) hcs.out)
                have HBW := Lib.hid (bseq (three_allocs _ _ _) hw3.out)
                go_wp2
                go_roundw
                case rel => exact ⟨i + 1, by omega, by go_num, HSS, Lib.hid (bseq hb.out HBW.out)⟩
                case measure => simp [intOf]; omega
          · clear c0'
            rw [show (decide (x = u) && decide (y = v)) = false by simp; omega, Bool.false_or] at hgo
            have HG2 := Lib.hid hgo
            clear hgo HG
            cases c1 : onB x y u v s t
            rotate_left
            · go_wp2_with fail
              refine (on_spec _ _ _ _ _ _ _ O1.out O2.out O3.out).mono ?_
              rintro e w1 ⟨rfl, hb1⟩
              have HB1 := Lib.hid (bseq ((three_allocs _ _ _).mono (Nat.le_refl _)) hb1)
              rw [c1]
              go_wp2
              go_ret
              exact ⟨ret_bool (seen_bad_go hiz (by rw [HG2.out, c1]; rfl)).symm, bseq hb.out HB1.out⟩
            cases c2 : onB u v s t x y
            rotate_left
            · go_wp2_with fail
              refine (on_spec _ _ _ _ _ _ _ O1.out O2.out O3.out).mono ?_
              rintro e w1 ⟨rfl, hb1⟩
              obtain ⟨k1, q1⟩ := bcell hb1
              have HB1 := Lib.hid (bseq (three_allocs _ _ _) hb1)
              clear hb1
              rw [c1]
              go_wp2_with fail
              refine (on_spec _ _ _ _ _ _ _ O2.out O3.out O1.out).mono ?_
              rintro e w2 ⟨rfl, hb2⟩
              have HB2 := Lib.hid (bseq HB1.out hb2)
              clear hb2
              rw [c2]
              clear k1 q1
              go_wp2
              go_ret
              exact ⟨ret_bool (seen_bad_go hiz (by rw [HG2.out, c1, c2]; rfl)).symm, bseq hb.out HB2.out⟩
            have HG3 := Lib.hid (show goOk zs i = true by rw [HG2.out, c1, c2]; rfl)
            clear HG2
            go_wp2_with fail
            refine (on_spec _ _ _ _ _ _ _ O1.out O2.out O3.out).mono ?_
            rintro e w1 ⟨rfl, hb1⟩
            obtain ⟨k1, q1⟩ := bcell hb1
            have HC1 := Lib.hid hb1
            clear hb1
            rw [c1]
            go_wp2_with fail
            refine (on_spec _ _ _ _ _ _ _ O2.out O3.out O1.out).mono ?_
            rintro e w2 ⟨rfl, hb2⟩
            have HC2 := Lib.hid (bseq HC1.out hb2)
            clear hb2
            rw [c2]
            clear k1 q1
            go_wp2
            go_loopw [9] (fun kv wq => ∃ k : Nat, i + 2 ≤ k ∧ k ≤ len + 2 ∧ kv = .int .i64 k ∧ Hid (allTo (cellOk zs i) k = true) ∧ Hid (Below (((wo.alloc (.cells #[.int .i64 x, .int .i64 y] 30)).alloc (.cells #[.int .i64 u, .int .i64 v] 30)).alloc (.cells #[.int .i64 s, .int .i64 t] 30)).heap.size (((wo.alloc (.cells #[.int .i64 x, .int .i64 y] 30)).alloc (.cells #[.int .i64 u, .int .i64 v] 30)).alloc (.cells #[.int .i64 s, .int .i64 t] 30)) wq)) (fun kv _ => len - (intOf kv).toNat)
            case atStart => exact ⟨i + 2, by omega, by omega, by go_num, Lib.hid (cells_low (Nat.le_refl _)), HC2⟩
            case round =>
              obtain ⟨k, hik, hk2, rfl, hcs, hw3⟩ := hrel
              by_cases hkl : k < len
              · have hkz : k < zs.length := by have := HZ.out; omega
                have hkj : (k + 1) % zs.length < zs.length := Nat.mod_lt _ (by omega)
                have hBW := bseq (three_allocs _ _ _) hw3.out
                have hP := HPP.out.below hBW HPP.out.1
                have hbq := hP.1
                obtain ⟨a0, a1, b0, b1, n2⟩ := three_boxes wo _ _ _ _ _ _ _ _ hw3.out
                have n0 : wo.heap.size < wr.heap.size := by omega
                have n1 : wo.heap.size + 1 < wr.heap.size := by omega
                obtain ⟨x4, y4, e4, o4, r1, r2⟩ := hP.ok HV.out hkz
                obtain ⟨x5, y5, e5, o5, r3, r4⟩ := hP.ok HV.out hkj
                have HCV := Lib.hid (cell_val zs i k hiz hkz hik _ _ _ _ _ _ _ _ E1.out E2.out e4 e5)
                have O4 := Lib.hid o4
                have O5 := Lib.hid o5
                have HGu := Lib.hid (@cell_skip zs i k)
                have ek : IntKind.i64.wrap ((k : Int) + 1) = (k : Int) + 1 := IntWalk.i64_in _ (by omega)
                have gm3 : ((k : Int) + 1) % (len : Int) = (((k + 1) % len : Nat) : Int) := mod_int k 1 len
                have gt3 : ((k : Int) + 1).tmod (len : Int) = (((k + 1) % len : Nat) : Int) := mod_tm k 1 len (by omega)
                rw [← HZ.out] at hkj r3 r4 HCV HGu
                have HCW := HCV
                generalize (k + 1) % len = j3 at gm3 gt3 hkj r3 r4 HCW HGu
                clear e4 e5 o4 o5 hP HCV
                have HBW := Lib.hid hBW
                clear hBW
                have hn0 : len ≠ 0 := by omega
                by_cases hg : j3 = i
                · have hg' : i = j3 := hg.symm
                  subst hg'
                  go_wp2
                  refine wp_region_below (by kernel_rfl) (by kernel_rfl) ?_
                  (refine wq_val (by go_simp) ?_; apply Exists.intro; refine ⟨fun w1 hw1 => ?_, ?_⟩; (obtain ⟨hc, hf⟩ := bcell hw1; clear hw1; go_simp; (try with_reducible rfl)); (try simp only [Act.put, List.setIfInBounds_toArray, List.set_cons_zero, List.set_cons_succ]))
                  (refine wq_val (by go_simp) ?_; apply Exists.intro; refine ⟨fun w1 hw1 => ?_, ?_⟩; (obtain ⟨hc, hf⟩ := bcell hw1; clear hw1; go_simp; (try with_reducible rfl)); (try simp only [Act.put, List.setIfInBounds_toArray, List.set_cons_zero, List.set_cons_succ]))
                  (refine wq_val (by go_simp) ?_; apply Exists.intro; refine ⟨fun w1 hw1 => ?_, ?_⟩; (obtain ⟨hc, hf⟩ := bcell hw1; clear hw1; go_simp; (try with_reducible rfl)); (try simp only [Act.put, List.setIfInBounds_toArray, List.set_cons_zero, List.set_cons_succ]))
                  (refine wq_val (by go_simp) ?_; apply Exists.intro; refine ⟨fun w1 hw1 => ?_, ?_⟩; (obtain ⟨hc, hf⟩ := bcell hw1; clear hw1; go_simp; (try with_reducible rfl)); (try simp only [Act.put, List.setIfInBounds_toArray, List.set_cons_zero, List.set_cons_succ]))
                  (refine wq_val (by go_simp) ?_; apply Exists.intro; refine ⟨fun w1 hw1 => ?_, ?_⟩; (obtain ⟨hc, hf⟩ := bcell hw1; clear hw1; go_simp; (try with_reducible rfl)); (try simp only [Act.put, List.setIfInBounds_toArray, List.set_cons_zero, List.set_cons_succ]))
                  (refine wq_val (by go_simp) ?_; apply Exists.intro; refine ⟨fun w1 hw1 => ?_, ?_⟩; (obtain ⟨hc, hf⟩ := bcell hw1; clear hw1; go_simp; (try with_reducible rfl)); (try simp only [Act.put, List.setIfInBounds_toArray, List.set_cons_zero, List.set_cons_succ]))
                  (refine wq_val (by go_simp) ?_; apply Exists.intro; refine ⟨fun w1 hw1 => ?_, ?_⟩; (obtain ⟨hc, hf⟩ := bcell hw1; clear hw1; go_simp; (try with_reducible rfl)); (try simp only [Act.put, List.setIfInBounds_toArray, List.set_cons_zero, List.set_cons_succ]))
                  (refine wq_skip (by go_simp) ?_; (try simp only [Act.put, List.setIfInBounds_toArray, List.set_cons_zero, List.set_cons_succ]))
                  (refine wq_skip (by go_simp) ?_; (try simp only [Act.put, List.setIfInBounds_toArray, List.set_cons_zero, List.set_cons_succ]))
                  (refine wq_skip (by go_simp) ?_; (try simp only [Act.put, List.setIfInBounds_toArray, List.set_cons_zero, List.set_cons_succ]))
                  (refine wq_skip (by go_simp) ?_; (try simp only [Act.put, List.setIfInBounds_toArray, List.set_cons_zero, List.set_cons_succ]))
                  (refine wq_skip (by go_simp) ?_; (try simp only [Act.put, List.setIfInBounds_toArray, List.set_cons_zero, List.set_cons_succ]))
                  (refine wq_skip (by go_simp) ?_; (try simp only [Act.put, List.setIfInBounds_toArray, List.set_cons_zero, List.set_cons_succ]))
                  (refine wq_skip (by go_simp) ?_; (try simp only [Act.put, List.setIfInBounds_toArray, List.set_cons_zero, List.set_cons_succ]))
                  (refine wq_skip (by go_simp) ?_; (try simp only [Act.put, List.setIfInBounds_toArray, List.set_cons_zero, List.set_cons_succ]))
                  (refine wq_skip (by go_simp) ?_; (try simp only [Act.put, List.setIfInBounds_toArray, List.set_cons_zero, List.set_cons_succ]))
                  (refine wq_skip (by go_simp) ?_; (try simp only [Act.put, List.setIfInBounds_toArray, List.set_cons_zero, List.set_cons_succ]))
                  (refine wq_skip (by go_simp) ?_; (try simp only [Act.put, List.setIfInBounds_toArray, List.set_cons_zero, List.set_cons_succ]))
                  (refine wq_skip (by go_simp) ?_; (try simp only [Act.put, List.setIfInBounds_toArray, List.set_cons_zero, List.set_cons_succ]))
                  (refine wq_skip (by go_simp) ?_; (try simp only [Act.put, List.setIfInBounds_toArray, List.set_cons_zero, List.set_cons_succ]))
                  (refine wq_skip (by go_simp) ?_; (try simp only [Act.put, List.setIfInBounds_toArray, List.set_cons_zero, List.set_cons_succ]))
                  (refine wq_val (by go_simp) ?_; apply Exists.intro; refine ⟨fun w1 hw1 => ?_, ?_⟩; (obtain ⟨hc, hf⟩ := bcell hw1; clear hw1; go_simp; (try with_reducible rfl)); (try simp only [Act.put, List.setIfInBounds_toArray, List.set_cons_zero, List.set_cons_succ]))
                  refine wq_nil ?_
                  intro w9 hb9

                  have HB9 := Lib.hid hb9
                  clear hb9
                  go_wp2
                  go_roundw
                  case rel => exact ⟨k + 1, by omega, by omega, by go_num, Lib.hid (allTo_succ hcs.out (HGu.out trivial)), Lib.hid (bseq hw3.out HB9.out)⟩
                  case measure => simp [intOf]; omega
                · have hn : ((j3 : Int) != (i : Int)) = true := by simp; omega
                  have hn2 : ((j3 : Int) == (i : Int)) = false := by simp; omega
                  have hn3 : decide ((j3 : Int) = (i : Int)) = false := by simp; omega
                  have hcw := HCW.out
                  rw [show decide (j3 ≠ i) = true by simp [hg], Bool.true_and] at hcw
                  have HCX := Lib.hid hcw
                  clear hcw HCW HGu
                  go_wp2
                  refine wp_region_below (by kernel_rfl) (by kernel_rfl) ?_
                  (refine wq_val (by go_simp) ?_; apply Exists.intro; refine ⟨fun w1 hw1 => ?_, ?_⟩; (obtain ⟨hc, hf⟩ := bcell hw1; clear hw1; go_simp; (try with_reducible rfl)); (try simp only [Act.put, List.setIfInBounds_toArray, List.set_cons_zero, List.set_cons_succ]))
                  (refine wq_val (by go_simp) ?_; apply Exists.intro; refine ⟨fun w1 hw1 => ?_, ?_⟩; (obtain ⟨hc, hf⟩ := bcell hw1; clear hw1; go_simp; (try with_reducible rfl)); (try simp only [Act.put, List.setIfInBounds_toArray, List.set_cons_zero, List.set_cons_succ]))
                  (refine wq_val (by go_simp) ?_; apply Exists.intro; refine ⟨fun w1 hw1 => ?_, ?_⟩; (obtain ⟨hc, hf⟩ := bcell hw1; clear hw1; go_simp; (try with_reducible rfl)); (try simp only [Act.put, List.setIfInBounds_toArray, List.set_cons_zero, List.set_cons_succ]))
                  (refine wq_val (by go_simp) ?_; apply Exists.intro; refine ⟨fun w1 hw1 => ?_, ?_⟩; (obtain ⟨hc, hf⟩ := bcell hw1; clear hw1; go_simp; (try with_reducible rfl)); (try simp only [Act.put, List.setIfInBounds_toArray, List.set_cons_zero, List.set_cons_succ]))
                  (refine wq_val (by go_simp) ?_; apply Exists.intro; refine ⟨fun w1 hw1 => ?_, ?_⟩; (obtain ⟨hc, hf⟩ := bcell hw1; clear hw1; go_simp; (try with_reducible rfl)); (try simp only [Act.put, List.setIfInBounds_toArray, List.set_cons_zero, List.set_cons_succ]))
                  (refine wq_val (by go_simp) ?_; apply Exists.intro; refine ⟨fun w1 hw1 => ?_, ?_⟩; (obtain ⟨hc, hf⟩ := bcell hw1; clear hw1; go_simp; (try with_reducible rfl)); (try simp only [Act.put, List.setIfInBounds_toArray, List.set_cons_zero, List.set_cons_succ]))
                  (refine wq_val (by go_simp) ?_; apply Exists.intro; refine ⟨fun w1 hw1 => ?_, ?_⟩; (obtain ⟨hc, hf⟩ := bcell hw1; clear hw1; go_simp; (try with_reducible rfl)); (try simp only [Act.put, List.setIfInBounds_toArray, List.set_cons_zero, List.set_cons_succ]))
                  (refine wq_val (by go_simp) ?_; apply Exists.intro; refine ⟨fun w1 hw1 => ?_, ?_⟩; (obtain ⟨hc, hf⟩ := bcell hw1; clear hw1; go_simp; (try with_reducible rfl)); (try simp only [Act.put, List.setIfInBounds_toArray, List.set_cons_zero, List.set_cons_succ]))
                  (refine wq_val (by go_simp) ?_; apply Exists.intro; refine ⟨fun w1 hw1 => ?_, ?_⟩; (obtain ⟨hc, hf⟩ := bcell hw1; clear hw1; go_simp; (try with_reducible rfl)); (try simp only [Act.put, List.setIfInBounds_toArray, List.set_cons_zero, List.set_cons_succ]))
                  (refine wq_val (by go_simp) ?_; apply Exists.intro; refine ⟨fun w1 hw1 => ?_, ?_⟩; (obtain ⟨hc, hf⟩ := bcell hw1; clear hw1; go_simp; (try with_reducible rfl)); (try simp only [Act.put, List.setIfInBounds_toArray, List.set_cons_zero, List.set_cons_succ]))
                  (refine wq_val (by go_simp) ?_; apply Exists.intro; refine ⟨fun w1 hw1 => ?_, ?_⟩; (obtain ⟨hc, hf⟩ := bcell hw1; clear hw1; go_simp; (try with_reducible rfl)); (try simp only [Act.put, List.setIfInBounds_toArray, List.set_cons_zero, List.set_cons_succ]))
                  (refine wq_val (by go_simp) ?_; apply Exists.intro; refine ⟨fun w1 hw1 => ?_, ?_⟩; (obtain ⟨hc, hf⟩ := bcell hw1; clear hw1; go_simp; (try with_reducible rfl)); (try simp only [Act.put, List.setIfInBounds_toArray, List.set_cons_zero, List.set_cons_succ]))
                  (refine wq_val (by go_simp) ?_; apply Exists.intro; refine ⟨fun w1 hw1 => ?_, ?_⟩; (obtain ⟨hc, hf⟩ := bcell hw1; clear hw1; go_simp; (try with_reducible rfl)); (try simp only [Act.put, List.setIfInBounds_toArray, List.set_cons_zero, List.set_cons_succ]))
                  (refine wq_val (by go_simp) ?_; apply Exists.intro; refine ⟨fun w1 hw1 => ?_, ?_⟩; (obtain ⟨hc, hf⟩ := bcell hw1; clear hw1; go_simp; (try with_reducible rfl)); (try simp only [Act.put, List.setIfInBounds_toArray, List.set_cons_zero, List.set_cons_succ]))
                  (refine wq_val (by go_simp) ?_; apply Exists.intro; refine ⟨fun w1 hw1 => ?_, ?_⟩; (obtain ⟨hc, hf⟩ := bcell hw1; clear hw1; go_simp; (try with_reducible rfl)); (try simp only [Act.put, List.setIfInBounds_toArray, List.set_cons_zero, List.set_cons_succ]))
                  (refine wq_val (by go_simp) ?_; apply Exists.intro; refine ⟨fun w1 hw1 => ?_, ?_⟩; (obtain ⟨hc, hf⟩ := bcell hw1; clear hw1; go_simp; (try with_reducible rfl)); (try simp only [Act.put, List.setIfInBounds_toArray, List.set_cons_zero, List.set_cons_succ]))
                  (refine wq_val (by go_simp) ?_; apply Exists.intro; refine ⟨fun w1 hw1 => ?_, ?_⟩; (obtain ⟨hc, hf⟩ := bcell hw1; clear hw1; go_simp; (try with_reducible rfl)); (try simp only [Act.put, List.setIfInBounds_toArray, List.set_cons_zero, List.set_cons_succ]))
                  (refine wq_val (by go_simp) ?_; apply Exists.intro; refine ⟨fun w1 hw1 => ?_, ?_⟩; (obtain ⟨hc, hf⟩ := bcell hw1; clear hw1; go_simp; (try with_reducible rfl)); (try simp only [Act.put, List.setIfInBounds_toArray, List.set_cons_zero, List.set_cons_succ]))
                  (refine wq_val (by go_simp) ?_; apply Exists.intro; refine ⟨fun w1 hw1 => ?_, ?_⟩; (obtain ⟨hc, hf⟩ := bcell hw1; clear hw1; go_simp; (try with_reducible rfl)); (try simp only [Act.put, List.setIfInBounds_toArray, List.set_cons_zero, List.set_cons_succ]))
                  (refine wq_val (by go_simp) ?_; apply Exists.intro; refine ⟨fun w1 hw1 => ?_, ?_⟩; (obtain ⟨hc, hf⟩ := bcell hw1; clear hw1; go_simp; (try with_reducible rfl)); (try simp only [Act.put, List.setIfInBounds_toArray, List.set_cons_zero, List.set_cons_succ]))
                  (refine wq_call 131 (by go_simp) ?_; apply Exists.intro; refine ⟨fun w1 hw1 => ?_, ?_⟩; (clear hw1; go_simp; (try with_reducible rfl)); apply Exists.intro; refine ⟨fun w1 hw1 => ?_, ?_⟩; (exact calls_below hw1 (meet_spec _ _ _ _ _ _ _ _ _ O1.out O2.out O4.out O5.out)); (try simp only [Act.put, List.setIfInBounds_toArray, List.set_cons_zero, List.set_cons_succ]))
                  (refine wq_val (by go_simp) ?_; apply Exists.intro; refine ⟨fun w1 hw1 => ?_, ?_⟩; (obtain ⟨hc, hf⟩ := bcell hw1; clear hw1; go_simp; (try with_reducible rfl)); (try simp only [Act.put, List.setIfInBounds_toArray, List.set_cons_zero, List.set_cons_succ]))
                  refine wq_nil ?_
                  intro w9 hb9

                  have HB9 := Lib.hid hb9
                  clear hb9
                  cases hm : tcB x y u v x4 y4 x5 y5
                  · rw [hm] at HCX
                    go_wp2
                    go_roundw
                    case rel => exact ⟨k + 1, by omega, by omega, by go_num, Lib.hid (allTo_succ hcs.out HCX.out), Lib.hid (bseq hw3.out HB9.out)⟩
                    case measure => simp [intOf]; omega
                  · rw [hm] at HCX
                    go_wp2
                    go_ret
                    exact ⟨ret_bool (seen_bad_cell hiz hkz HCX.out).symm, (bseq hb.out HBW.out).trans (HB9.out.mono (by have := hb.out.size; have := HBW.out.size; omega))⟩
              · have HSS := Lib.hid (seen_succ hsn.out HG3.out (k := k) (by have := HZ.out; omega) hcs.out)
                have HBW := Lib.hid (bseq (three_allocs _ _ _) hw3.out)
                go_wp2
                go_roundw
                case rel => exact ⟨i + 1, by omega, by go_num, HSS, Lib.hid (bseq hb.out HBW.out)⟩
                case measure => simp [intOf]; omega
        · go_wp2_with fail
          refine (area_spec b len cap zs _ HZ.out (by omega) hl HV.out (HP.out.below hb.out HP.out.1)).mono ?_
          rintro e w1 ⟨rfl, hb1⟩
          have HB1 := Lib.hid hb1
          clear hb1
          go_wp2
          go_ret
          exact ⟨ret_bool (seen_all (by have := HZ.out; omega) (by have := HZ.out; omega) HV.out (by have := HZ.out; omega) hsn.out).symm, bseq hb.out HB1.out⟩
end Go.Proofs.Ytjhmpmaademdcaa
