/- Several texts in one: PolyOk, PolyImpl, Edges. -/
import Derived.Test.YtmfchcaidfloaaaDoorK1
import Derived.Test.YtmfchcaidfloaaaDoorSegCont
import Derived.Test.YtmfchcaidfloaaaDoorPlan
import Derived.RangeFuncBox
import Derived.RangeFuncLeaves
import Derived.RangeFuncCalls
import Derived.RangeFuncNested
import Derived.Shelf.Abstract
import Derived.WalkKit
import Derived.TacticsInMore
import Derived.LoopNIn
import Derived.LoopIn
namespace Go.Proofs.YtmfchcaidfloaaaDoor
open Go.ChangeShapes Go.WideShapes Go.ChangeAt Go.RowKit
set_option linter.unusedVariables false

set_option maxHeartbeats 1000000 in
theorem meet_spec (xa ya xb yb xc yc xd yd : Int) (w : World) (ha : okI xa ya = true) (hb : okI xb yb = true) (hc : okI xc yc = true) (hd : okI xd yd = true) :
    Calls Tryd.prog 87 #[.agg #[.int .i64 xa, .int .i64 ya], .agg #[.int .i64 xb, .int .i64 yb], .agg #[.int .i64 xc, .int .i64 yc], .agg #[.int .i64 xd, .int .i64 yd]] w fun e w' => e = .returned (.bool (tcB xa ya xb yb xc yc xd yd)) ∧ Below w.heap.size w w' := by
  have HA := Lib.hid ha
  have HB := Lib.hid hb
  have HC := Lib.hid hc
  have HD := Lib.hid hd
  clear ha hb hc hd
  cases c0 : csB xa ya xb yb xc yc xd yd
  rotate_left
  · have hs : tcB xa ya xb yb xc yc xd yd = true := by simp [tcB, c0]
    rw [hs]; clear hs
    go_enter Tryd.func87, Tryd.ntmps87
    go_wp2_with fail
    refine (crosses_spec _ _ _ _ _ _ _ _ _ HA.out HB.out HC.out HD.out).mono ?_
    rintro e w1 ⟨rfl, g1⟩
    obtain ⟨k1, q1⟩ := bcell g1
    have HW1 := Lib.hid g1
    clear g1
    clear k1 q1
    go_wp2
    go_ret
    exact ⟨rfl, bseq (four_allocs _ _ _ _) HW1.out⟩
  cases c1 : onB xa ya xb yb xc yc
  rotate_left
  · have hs : tcB xa ya xb yb xc yc xd yd = true := by simp [tcB, c0, c1]
    rw [hs]; clear hs
    go_enter Tryd.func87, Tryd.ntmps87
    go_wp2_with fail
    refine (crosses_spec _ _ _ _ _ _ _ _ _ HA.out HB.out HC.out HD.out).mono ?_
    rintro e w1 ⟨rfl, g1⟩
    obtain ⟨k1, q1⟩ := bcell g1
    have HW1 := Lib.hid g1
    clear g1
    go_wp2_with fail
    refine (on_spec _ _ _ _ _ _ _ HA.out HB.out HC.out).mono ?_
    rintro e w2 ⟨rfl, g2⟩
    obtain ⟨k2, q2⟩ := bcell (bseq HW1.out g2)
    have HW2 := Lib.hid (bseq HW1.out g2)
    clear g2 k1 q1
    clear k2 q2
    go_wp2
    go_ret
    exact ⟨rfl, bseq (four_allocs _ _ _ _) HW2.out⟩
  cases c2 : onB xa ya xb yb xd yd
  rotate_left
  · have hs : tcB xa ya xb yb xc yc xd yd = true := by simp [tcB, c0, c1, c2]
    rw [hs]; clear hs
    go_enter Tryd.func87, Tryd.ntmps87
    go_wp2_with fail
    refine (crosses_spec _ _ _ _ _ _ _ _ _ HA.out HB.out HC.out HD.out).mono ?_
    rintro e w1 ⟨rfl, g1⟩
    obtain ⟨k1, q1⟩ := bcell g1
    have HW1 := Lib.hid g1
    clear g1
    go_wp2_with fail
    refine (on_spec _ _ _ _ _ _ _ HA.out HB.out HC.out).mono ?_
    rintro e w2 ⟨rfl, g2⟩
    obtain ⟨k2, q2⟩ := bcell (bseq HW1.out g2)
    have HW2 := Lib.hid (bseq HW1.out g2)
    clear g2 k1 q1
    go_wp2_with fail
    refine (on_spec _ _ _ _ _ _ _ HA.out HB.out HD.out).mono ?_
    rintro e w3 ⟨rfl, g3⟩
    obtain ⟨k3, q3⟩ := bcell (bseq HW2.out g3)
    have HW3 := Lib.hid (bseq HW2.out g3)
    clear g3 k2 q2
    clear k3 q3
    go_wp2
    go_ret
    exact ⟨rfl, bseq (four_allocs _ _ _ _) HW3.out⟩
  cases c3 : onB xc yc xd yd xa ya
  rotate_left
  · have hs : tcB xa ya xb yb xc yc xd yd = true := by simp [tcB, c0, c1, c2, c3]
    rw [hs]; clear hs
    go_enter Tryd.func87, Tryd.ntmps87
    go_wp2_with fail
    refine (crosses_spec _ _ _ _ _ _ _ _ _ HA.out HB.out HC.out HD.out).mono ?_
    rintro e w1 ⟨rfl, g1⟩
    obtain ⟨k1, q1⟩ := bcell g1
    have HW1 := Lib.hid g1
    clear g1
    go_wp2_with fail
    refine (on_spec _ _ _ _ _ _ _ HA.out HB.out HC.out).mono ?_
    rintro e w2 ⟨rfl, g2⟩
    obtain ⟨k2, q2⟩ := bcell (bseq HW1.out g2)
    have HW2 := Lib.hid (bseq HW1.out g2)
    clear g2 k1 q1
    go_wp2_with fail
    refine (on_spec _ _ _ _ _ _ _ HA.out HB.out HD.out).mono ?_
    rintro e w3 ⟨rfl, g3⟩
    obtain ⟨k3, q3⟩ := bcell (bseq HW2.out g3)
    have HW3 := Lib.hid (bseq HW2.out g3)
    clear g3 k2 q2
    go_wp2_with fail
    refine (on_spec _ _ _ _ _ _ _ HC.out HD.out HA.out).mono ?_
    rintro e w4 ⟨rfl, g4⟩
    obtain ⟨k4, q4⟩ := bcell (bseq HW3.out g4)
    have HW4 := Lib.hid (bseq HW3.out g4)
    clear g4 k3 q3
    clear k4 q4
    go_wp2
    go_ret
    exact ⟨rfl, bseq (four_allocs _ _ _ _) HW4.out⟩
  cases c4 : onB xc yc xd yd xb yb
  rotate_left
  · have hs : tcB xa ya xb yb xc yc xd yd = true := by simp [tcB, c0, c1, c2, c3, c4]
    rw [hs]; clear hs
    go_enter Tryd.func87, Tryd.ntmps87
    go_wp2_with fail
    refine (crosses_spec _ _ _ _ _ _ _ _ _ HA.out HB.out HC.out HD.out).mono ?_
    rintro e w1 ⟨rfl, g1⟩
    obtain ⟨k1, q1⟩ := bcell g1
    have HW1 := Lib.hid g1
    clear g1
    go_wp2_with fail
    refine (on_spec _ _ _ _ _ _ _ HA.out HB.out HC.out).mono ?_
    rintro e w2 ⟨rfl, g2⟩
    obtain ⟨k2, q2⟩ := bcell (bseq HW1.out g2)
    have HW2 := Lib.hid (bseq HW1.out g2)
    clear g2 k1 q1
    go_wp2_with fail
    refine (on_spec _ _ _ _ _ _ _ HA.out HB.out HD.out).mono ?_
    rintro e w3 ⟨rfl, g3⟩
    obtain ⟨k3, q3⟩ := bcell (bseq HW2.out g3)
    have HW3 := Lib.hid (bseq HW2.out g3)
    clear g3 k2 q2
    go_wp2_with fail
    refine (on_spec _ _ _ _ _ _ _ HC.out HD.out HA.out).mono ?_
    rintro e w4 ⟨rfl, g4⟩
    obtain ⟨k4, q4⟩ := bcell (bseq HW3.out g4)
    have HW4 := Lib.hid (bseq HW3.out g4)
    clear g4 k3 q3
    go_wp2_with fail
    refine (on_spec _ _ _ _ _ _ _ HC.out HD.out HB.out).mono ?_
    rintro e w5 ⟨rfl, g5⟩
    obtain ⟨k5, q5⟩ := bcell (bseq HW4.out g5)
    have HW5 := Lib.hid (bseq HW4.out g5)
    clear g5 k4 q4
    clear k5 q5
    go_wp2
    go_ret
    exact ⟨rfl, bseq (four_allocs _ _ _ _) HW5.out⟩
  have hs : tcB xa ya xb yb xc yc xd yd = false := by simp [tcB, c0, c1, c2, c3, c4]
  rw [hs]; clear hs
  go_enter Tryd.func87, Tryd.ntmps87
  go_wp2_with fail
  refine (crosses_spec _ _ _ _ _ _ _ _ _ HA.out HB.out HC.out HD.out).mono ?_
  rintro e w1 ⟨rfl, g1⟩
  obtain ⟨k1, q1⟩ := bcell g1
  have HW1 := Lib.hid g1
  clear g1
  go_wp2_with fail
  refine (on_spec _ _ _ _ _ _ _ HA.out HB.out HC.out).mono ?_
  rintro e w2 ⟨rfl, g2⟩
  obtain ⟨k2, q2⟩ := bcell (bseq HW1.out g2)
  have HW2 := Lib.hid (bseq HW1.out g2)
  clear g2 k1 q1
  go_wp2_with fail
  refine (on_spec _ _ _ _ _ _ _ HA.out HB.out HD.out).mono ?_
  rintro e w3 ⟨rfl, g3⟩
  obtain ⟨k3, q3⟩ := bcell (bseq HW2.out g3)
  have HW3 := Lib.hid (bseq HW2.out g3)
  clear g3 k2 q2
  go_wp2_with fail
  refine (on_spec _ _ _ _ _ _ _ HC.out HD.out HA.out).mono ?_
  rintro e w4 ⟨rfl, g4⟩
  obtain ⟨k4, q4⟩ := bcell (bseq HW3.out g4)
  have HW4 := Lib.hid (bseq HW3.out g4)
  clear g4 k3 q3
  go_wp2_with fail
  refine (on_spec _ _ _ _ _ _ _ HC.out HD.out HB.out).mono ?_
  rintro e w5 ⟨rfl, g5⟩
  obtain ⟨k5, q5⟩ := bcell (bseq HW4.out g5)
  have HW5 := Lib.hid (bseq HW4.out g5)
  clear g5 k4 q4
  clear k5 q5
  go_wp2
  go_ret
  exact ⟨rfl, bseq (four_allocs _ _ _ _) HW5.out⟩
theorem mod_tm (k c n : Nat) (hn : 0 < n) : ((k : Int) + (c : Int)).tmod (n : Int) = (((k + c) % n : Nat) : Int) := by
  rw [Int.tmod_eq_emod_of_nonneg (by omega)]; simp
theorem three_boxes (w : World) (a0 a1 b0 b1 c0 c1 : Value) (T : TypeId) (w' : World) (h : Below (((w.alloc (.cells #[a0, a1] T)).alloc (.cells #[b0, b1] T)).alloc (.cells #[c0, c1] T)).heap.size (((w.alloc (.cells #[a0, a1] T)).alloc (.cells #[b0, b1] T)).alloc (.cells #[c0, c1] T)) w') :
    w'.cell? ⟨w.heap.size, 0, none⟩ = some a0 ∧ w'.cell? ⟨w.heap.size, 1, none⟩ = some a1 ∧ w'.cell? ⟨w.heap.size + 1, 0, none⟩ = some b0 ∧ w'.cell? ⟨w.heap.size + 1, 1, none⟩ = some b1 ∧ w.heap.size + 2 < w'.heap.size := by
  obtain ⟨hc, hf⟩ := bcell h
  refine ⟨?_, ?_, ?_, ?_, ?_⟩
  · rw [hc _ _ (by simp <;> omega)]; go_simp
  · rw [hc _ _ (by simp <;> omega)]; go_simp
  · rw [hc _ _ (by simp <;> omega)]; go_simp
  · rw [hc _ _ (by simp <;> omega)]; go_simp
  · have := h.size; simp at this; omega
/-- What the outer loop has seen. -/
def SeenTo (zs : List P2) (i : Nat) : Prop := allTo (goOk zs) i = true ∧ allTo (fun i => allTo (cellOk zs i) zs.length) i = true
theorem cell_skip {zs : List P2} {i k : Nat} (h : (k + 1) % zs.length = i) : cellOk zs i k = true := by
  unfold cellOk
  rw [show decide ((k + 1) % zs.length ≠ i) = false by simp [h]]; simp
theorem allTo_succ {f : Nat → Bool} {k : Nat} (h : allTo f k = true) (hk : f k = true) : allTo f (k + 1) = true := by
  show (allTo f k && f k) = true
  rw [h, hk]; rfl
theorem seen_succ {zs : List P2} {i k : Nat} (h : SeenTo zs i) (hg : goOk zs i = true) (hk : zs.length ≤ k) (hc : allTo (cellOk zs i) k = true) : SeenTo zs (i + 1) :=
  ⟨allTo_succ h.1 hg, allTo_succ h.2 (allTo_ok fun j hj => (allTo_iff _ _).1 hc j (by omega))⟩
theorem seen_bad_go {zs : List P2} {i : Nat} (hi : i < zs.length) (h : goOk zs i = false) : polyB zs = false := by
  unfold polyB
  rw [show goB zs = false from allTo_bad hi h]
  simp
theorem seen_bad_cell {zs : List P2} {i k : Nat} (hi : i < zs.length) (hk : k < zs.length) (h : cellOk zs i k = false) : polyB zs = false := by
  unfold polyB
  rw [show apB zs = false from allTo_bad hi (allTo_bad hk h)]
  simp
theorem cell_low {zs : List P2} {i k : Nat} (h : k < i + 2) : cellOk zs i k = true := by
  unfold cellOk
  rw [decide_eq_false (by omega)]; rfl
theorem cells_low {zs : List P2} {i k : Nat} (h : k ≤ i + 2) : allTo (cellOk zs i) k = true := allTo_ok fun j hj => cell_low (by omega)
theorem seen_all {zs : List P2} (h3 : 3 ≤ zs.length) (h4 : zs.length ≤ 24) (hv : allOk zs = true) {i : Nat} (hi : zs.length ≤ i) (h : SeenTo zs i) : polyB zs = decide (0 < areaI zs) := by
  have e1 : goB zs = true := allTo_ok fun j hj => (allTo_iff _ _).1 h.1 j (by omega)
  have e2 : apB zs = true := allTo_ok fun j hj => (allTo_iff _ _).1 h.2 j (by omega)
  rw [poly_of h3 h4 hv, e1, e2]; rfl
theorem go_val (zs : List P2) (k : Nat) (hk : k < zs.length) (x y u v s t : Int) (h0 : zs.getD k (0, 0) = (x, y)) (h1 : zs.getD ((k + 1) % zs.length) (0, 0) = (u, v)) (h2 : zs.getD ((k + 2) % zs.length) (0, 0) = (s, t)) :
    goOk zs k = !((decide (x = u) && decide (y = v)) || onB x y u v s t || onB u v s t x y) := by
  unfold goOk
  rw [pt_lt hk, h0, pt, h1, pt, h2]; rfl
theorem cell_val (zs : List P2) (i k : Nat) (hi : i < zs.length) (hk : k < zs.length) (hik : i + 2 ≤ k) (x y u v s t p q : Int) (h0 : zs.getD i (0, 0) = (x, y)) (h1 : zs.getD ((i + 1) % zs.length) (0, 0) = (u, v)) (h2 : zs.getD k (0, 0) = (s, t)) (h3 : zs.getD ((k + 1) % zs.length) (0, 0) = (p, q)) :
    cellOk zs i k = !(decide ((k + 1) % zs.length ≠ i) && tcB x y u v s t p q) := by
  unfold cellOk
  rw [pt_lt hi, h0, pt, h1, pt_lt hk, h2, pt, h3, decide_eq_true hik]; rfl
set_option maxRecDepth 100000 in
set_option maxHeartbeats 4000000 in
theorem ok3_spec (b len cap : Nat) (zs : List P2) (w : World) (hz : len = zs.length) (h3 : 3 ≤ len) (hl : len ≤ 24) (hp : PtsAt w b zs) :
    Calls Tryd.prog 48 #[.slice (some ⟨b, 0, none⟩) len cap] w fun e w' => e = .returned (.bool (polyB zs)) ∧ Below w.heap.size w w' := by
  have HZ := Lib.hid hz
  have HP := Lib.hid hp
  clear hz hp
  go_enter Tryd.func48, Tryd.ntmps48
  go_wp2
  go_loopw [4] (fun i wr => ∃ k : Nat, k ≤ len ∧ i = .int .i64 k ∧ Hid (allOk (zs.take k) = true) ∧ Hid (Below w.heap.size w wr)) (fun i _ => len - (intOf i).toNat)
  case atStart => exact ⟨0, by omega, rfl, Lib.hid (by simp [allOk]), Lib.hid (Below.refl _ _)⟩
  case round =>
    obtain ⟨k, hk, rfl, ha, hb⟩ := hrel
    by_cases hlt : k < len
    · have hkz : k < zs.length := by have := HZ.out; omega
      obtain ⟨x, y, e1, c1, c2⟩ := (HP.out.below hb.out HP.out.1).pt hkz
      have HS := Lib.hid (allOk_snoc zs k hkz ha.out)
      have HBad := Lib.hid (allOk_bad zs k hkz)
      rw [e1] at HS HBad
      clear e1
      cases ho : okI x y
      · go_wp2_with fail
        refine (ok_spec _ _ _).mono ?_
        rintro e w1 ⟨rfl, hb1⟩
        have HB1 := Lib.hid hb1
        clear hb1
        rw [ho]
        go_wp2
        go_ret
        exact ⟨ret_bool (poly_bad (HBad.out ho)).symm, (bseq hb.out HB1.out)⟩
      · go_wp2_with fail
        refine (ok_spec _ _ _).mono ?_
        rintro e w1 ⟨rfl, hb1⟩
        have HB1 := Lib.hid hb1
        clear hb1
        rw [ho]
        go_wp2
        go_roundw
        case rel => exact ⟨k + 1, by omega, by go_num, Lib.hid (HS.out ho), Lib.hid (bseq hb.out HB1.out)⟩
        case measure => simp [intOf]; omega
    · have HV := Lib.hid (allOk_end zs k (by have := HZ.out; omega) ha.out)
      have HK : Hid (k = len) := Lib.hid (by omega)
      clear ha
      go_wp2
      go_loopw [5] (fun i wr => ∃ k : Nat, k ≤ len ∧ i = .int .i64 k ∧ Hid (SeenTo zs k) ∧ Hid (Below w.heap.size w wr)) (fun i _ => len - (intOf i).toNat)
      case atStart => exact ⟨0, by omega, rfl, Lib.hid ⟨rfl, rfl⟩, hb⟩
      case round =>
        clear hb HK hlt hk
        obtain ⟨i, hi, rfl, hsn, hb⟩ := hrel
        obtain ⟨wo, hwo⟩ : ∃ wo, wo = wr := ⟨wr, rfl⟩
        subst hwo
        by_cases hlt : i < len
        · have hiz : i < zs.length := by have := HZ.out; omega
          have hj : (i + 1) % zs.length < zs.length := Nat.mod_lt _ (by omega)
          have hl2 : (i + 2) % zs.length < zs.length := Nat.mod_lt _ (by omega)
          have hP := HP.out.below hb.out HP.out.1
          have hbw := hP.1
          have hw := hb.out.size
          obtain ⟨x, y, e1, o1, c1, c2⟩ := hP.ok HV.out hiz
          obtain ⟨u, v, e2, o2, d1, d2⟩ := hP.ok HV.out hj
          obtain ⟨s, t, e3, o3, f1, f2⟩ := hP.ok HV.out hl2
          have HG := Lib.hid (go_val zs i hiz x y u v s t e1 e2 e3)
          have E1 := Lib.hid e1
          have E2 := Lib.hid e2
          have O1 := Lib.hid o1
          have O2 := Lib.hid o2
          have O3 := Lib.hid o3
          rw [← HZ.out] at hj hl2 d1 d2 f1 f2
          have gm1 : ((i : Int) + 1) % (len : Int) = (((i + 1) % len : Nat) : Int) := mod_int i 1 len
          have gm2 : ((i : Int) + 2) % (len : Int) = (((i + 2) % len : Nat) : Int) := mod_int i 2 len
          generalize (i + 1) % len = j at gm1 hj d1 d2
          generalize (i + 2) % len = j2 at gm2 hl2 f1 f2
          have HPP := Lib.hid hP
          clear e1 e2 e3 o1 o2 o3 hP
          have hgo := HG.out
          cases c0 : (decide (x = u) && decide (y = v))
          rotate_left
          · obtain ⟨rfl, rfl⟩ : x = u ∧ y = v := by simpa using c0
            clear hgo c0
            go_wp2
            go_ret
            exact ⟨ret_bool (seen_bad_go hiz (by rw [HG.out]; simp)).symm, (hb.out.trans ((three_allocs _ _ _).mono hw))⟩
          have hxu : x ≠ u ∨ x = u := by omega
          have c0' : ¬ (x = u ∧ y = v) := by simpa using c0
          clear c0
          rcases hxu with hxu | hxu
          rotate_left
          · subst hxu
            have hyv : y ≠ v := fun h => c0' ⟨rfl, h⟩
            clear c0'
            rw [show (decide (x = x) && decide (y = v)) = false by simp; omega, Bool.false_or] at hgo
            have HG2 := Lib.hid hgo
            clear hgo HG
            cases c1 : onB x y x v s t
            rotate_left
            · go_wp2_with fail
              refine (on_spec _ _ _ _ _ _ _ O1.out O2.out O3.out).mono ?_
              rintro e w1 ⟨rfl, hb1⟩
              have HB1 := Lib.hid (bseq ((three_allocs _ _ _).mono (Nat.le_refl _)) hb1)
              rw [c1]
              go_wp2
              go_ret
              exact ⟨ret_bool (seen_bad_go hiz (by rw [HG2.out, c1]; rfl)).symm, bseq hb.out HB1.out⟩
            cases c2 : onB x v s t x y
            rotate_left
            · go_wp2_with fail
              refine (on_spec _ _ _ _ _ _ _ O1.out O2.out O3.out).mono ?_
              rintro e w1 ⟨rfl, hb1⟩
              obtain ⟨k1, q1⟩ := bcell hb1
              have HB1 := Lib.hid (bseq (three_allocs _ _ _) hb1)
              clear hb1
              rw [c1]
              go_wp2_with fail
              refine (on_spec _ _ _ _ _ _ _ O2.out O3.out O1.out).mono ?_
              rintro e w2 ⟨rfl, hb2⟩
              have HB2 := Lib.hid (bseq HB1.out hb2)
              clear hb2
              rw [c2]
              clear k1 q1
              go_wp2
              go_ret
              exact ⟨ret_bool (seen_bad_go hiz (by rw [HG2.out, c1, c2]; rfl)).symm, bseq hb.out HB2.out⟩
            have HG3 := Lib.hid (show goOk zs i = true by rw [HG2.out, c1, c2]; rfl)
            clear HG2
            go_wp2_with fail
            refine (on_spec _ _ _ _ _ _ _ O1.out O2.out O3.out).mono ?_
            rintro e w1 ⟨rfl, hb1⟩
            obtain ⟨k1, q1⟩ := bcell hb1
            have HC1 := Lib.hid hb1
            clear hb1
            rw [c1]
            go_wp2_with fail
            refine (on_spec _ _ _ _ _ _ _ O2.out O3.out O1.out).mono ?_
            rintro e w2 ⟨rfl, hb2⟩
            have HC2 := Lib.hid (bseq HC1.out hb2)
            clear hb2
            rw [c2]
            clear k1 q1
            go_wp2
            go_loopw [9] (fun kv wq => ∃ k : Nat, i + 2 ≤ k ∧ k ≤ len + 2 ∧ kv = .int .i64 k ∧ Hid (allTo (cellOk zs i) k = true) ∧ Hid (Below (((wo.alloc (.cells #[.int .i64 x, .int .i64 y] 90)).alloc (.cells #[.int .i64 x, .int .i64 v] 90)).alloc (.cells #[.int .i64 s, .int .i64 t] 90)).heap.size (((wo.alloc (.cells #[.int .i64 x, .int .i64 y] 90)).alloc (.cells #[.int .i64 x, .int .i64 v] 90)).alloc (.cells #[.int .i64 s, .int .i64 t] 90)) wq)) (fun kv _ => len - (intOf kv).toNat)
            case atStart => exact ⟨i + 2, by omega, by omega, by go_num, Lib.hid (cells_low (Nat.le_refl _)), HC2⟩
            case round =>
              obtain ⟨k, hik, hk2, rfl, hcs, hw3⟩ := hrel
              by_cases hkl : k < len
              · have hkz : k < zs.length := by have := HZ.out; omega
                have hkj : (k + 1) % zs.length < zs.length := Nat.mod_lt _ (by omega)
                have hBW := bseq (three_allocs _ _ _) hw3.out
                have hP := HPP.out.below hBW HPP.out.1
                have hbq := hP.1
                obtain ⟨a0, a1, b0, b1, n2⟩ := three_boxes wo _ _ _ _ _ _ _ _ hw3.out
                have n0 : wo.heap.size < wr.heap.size := by omega
                have n1 : wo.heap.size + 1 < wr.heap.size := by omega
                obtain ⟨x4, y4, e4, o4, r1, r2⟩ := hP.ok HV.out hkz
                obtain ⟨x5, y5, e5, o5, r3, r4⟩ := hP.ok HV.out hkj
                have HCV := Lib.hid (cell_val zs i k hiz hkz hik _ _ _ _ _ _ _ _ E1.out E2.out e4 e5)
                have O4 := Lib.hid o4
                have O5 := Lib.hid o5
                have HGu := Lib.hid (@cell_skip zs i k)
                have ek : IntKind.i64.wrap ((k : Int) + 1) = (k : Int) + 1 := IntWalk.i64_in _ (by omega)
                have gm3 : ((k : Int) + 1) % (len : Int) = (((k + 1) % len : Nat) : Int) := mod_int k 1 len
                have gt3 : ((k : Int) + 1).tmod (len : Int) = (((k + 1) % len : Nat) : Int) := mod_tm k 1 len (by omega)
                rw [← HZ.out] at hkj r3 r4 HCV HGu
                have HCW := HCV
                generalize (k + 1) % len = j3 at gm3 gt3 hkj r3 r4 HCW HGu
                clear e4 e5 o4 o5 hP HCV
                have HBW := Lib.hid hBW
                clear hBW
                have hn0 : len ≠ 0 := by omega
                by_cases hg : j3 = i
                · have hg' : i = j3 := hg.symm
                  subst hg'
                  go_wp2
                  refine wp_region_below (by kernel_rfl) (by kernel_rfl) ?_
                  (refine wq_val (by go_simp) ?_; apply Exists.intro; refine ⟨fun w1 hw1 => ?_, ?_⟩; (obtain ⟨hc, hf⟩ := bcell hw1; clear hw1; go_simp; (try with_reducible rfl)); (try simp only [Act.put, List.setIfInBounds_toArray, List.set_cons_zero, List.set_cons_succ]))
                  (refine wq_val (by go_simp) ?_; apply Exists.intro; refine ⟨fun w1 hw1 => ?_, ?_⟩; (obtain ⟨hc, hf⟩ := bcell hw1; clear hw1; go_simp; (try with_reducible rfl)); (try simp only [Act.put, List.setIfInBounds_toArray, List.set_cons_zero, List.set_cons_succ]))
                  (refine wq_val (by go_simp) ?_; apply Exists.intro; refine ⟨fun w1 hw1 => ?_, ?_⟩; (obtain ⟨hc, hf⟩ := bcell hw1; clear hw1; go_simp; (try with_reducible rfl)); (try simp only [Act.put, List.setIfInBounds_toArray, List.set_cons_zero, List.set_cons_succ]))
                  (refine wq_val (by go_simp) ?_; apply Exists.intro; refine ⟨fun w1 hw1 => ?_, ?_⟩; (obtain ⟨hc, hf⟩ := bcell hw1; clear hw1; go_simp; (try with_reducible rfl)); (try simp only [Act.put, List.setIfInBounds_toArray, List.set_cons_zero, List.set_cons_succ]))
                  (refine wq_val (by go_simp) ?_; apply Exists.intro; refine ⟨fun w1 hw1 => ?_, ?_⟩; (obtain ⟨hc, hf⟩ := bcell hw1; clear hw1; go_simp; (try with_reducible rfl)); (try simp only [Act.put, List.setIfInBounds_toArray, List.set_cons_zero, List.set_cons_succ]))
                  (refine wq_val (by go_simp) ?_; apply Exists.intro; refine ⟨fun w1 hw1 => ?_, ?_⟩; (obtain ⟨hc, hf⟩ := bcell hw1; clear hw1; go_simp; (try with_reducible rfl)); (try simp only [Act.put, List.setIfInBounds_toArray, List.set_cons_zero, List.set_cons_succ]))
                  (refine wq_val (by go_simp) ?_; apply Exists.intro; refine ⟨fun w1 hw1 => ?_, ?_⟩; (obtain ⟨hc, hf⟩ := bcell hw1; clear hw1; go_simp; (try with_reducible rfl)); (try simp only [Act.put, List.setIfInBounds_toArray, List.set_cons_zero, List.set_cons_succ]))
                  (refine wq_skip (by go_simp) ?_; (try simp only [Act.put, List.setIfInBounds_toArray, List.set_cons_zero, List.set_cons_succ]))
                  (refine wq_skip (by go_simp) ?_; (try simp only [Act.put, List.setIfInBounds_toArray, List.set_cons_zero, List.set_cons_succ]))
                  (refine wq_skip (by go_simp) ?_; (try simp only [Act.put, List.setIfInBounds_toArray, List.set_cons_zero, List.set_cons_succ]))
                  (refine wq_skip (by go_simp) ?_; (try simp only [Act.put, List.setIfInBounds_toArray, List.set_cons_zero, List.set_cons_succ]))
                  (refine wq_skip (by go_simp) ?_; (try simp only [Act.put, List.setIfInBounds_toArray, List.set_cons_zero, List.set_cons_succ]))
                  (refine wq_skip (by go_simp) ?_; (try simp only [Act.put, List.setIfInBounds_toArray, List.set_cons_zero, List.set_cons_succ]))
                  (refine wq_skip (by go_simp) ?_; (try simp only [Act.put, List.setIfInBounds_toArray, List.set_cons_zero, List.set_cons_succ]))
                  (refine wq_skip (by go_simp) ?_; (try simp only [Act.put, List.setIfInBounds_toArray, List.set_cons_zero, List.set_cons_succ]))
                  (refine wq_skip (by go_simp) ?_; (try simp only [Act.put, List.setIfInBounds_toArray, List.set_cons_zero, List.set_cons_succ]))
                  (refine wq_skip (by go_simp) ?_; (try simp only [Act.put, List.setIfInBounds_toArray, List.set_cons_zero, List.set_cons_succ]))
                  (refine wq_skip (by go_simp) ?_; (try simp only [Act.put, List.setIfInBounds_toArray, List.set_cons_zero, List.set_cons_succ]))
                  (refine wq_skip (by go_simp) ?_; (try simp only [Act.put, List.setIfInBounds_toArray, List.set_cons_zero, List.set_cons_succ]))
                  (refine wq_skip (by go_simp) ?_; (try simp only [Act.put, List.setIfInBounds_toArray, List.set_cons_zero, List.set_cons_succ]))
                  (refine wq_skip (by go_simp) ?_; (try simp only [Act.put, List.setIfInBounds_toArray, List.set_cons_zero, List.set_cons_succ]))
                  (refine wq_val (by go_simp) ?_; apply Exists.intro; refine ⟨fun w1 hw1 => ?_, ?_⟩; (obtain ⟨hc, hf⟩ := bcell hw1; clear hw1; go_simp; (try with_reducible rfl)); (try simp only [Act.put, List.setIfInBounds_toArray, List.set_cons_zero, List.set_cons_succ]))
                  refine wq_nil ?_
                  intro w9 hb9

                  have HB9 := Lib.hid hb9
                  clear hb9
                  go_wp2
                  go_roundw
                  case rel => exact ⟨k + 1, by omega, by omega, by go_num, Lib.hid (allTo_succ hcs.out (HGu.out trivial)), Lib.hid (bseq hw3.out HB9.out)⟩
                  case measure => simp [intOf]; omega
                · have hn : ((j3 : Int) != (i : Int)) = true := by simp; omega
                  have hn2 : ((j3 : Int) == (i : Int)) = false := by simp; omega
                  have hn3 : decide ((j3 : Int) = (i : Int)) = false := by simp; omega
                  have hcw := HCW.out
                  rw [show decide (j3 ≠ i) = true by simp [hg], Bool.true_and] at hcw
                  have HCX := Lib.hid hcw
                  clear hcw HCW HGu
                  go_wp2
                  refine wp_region_below (by kernel_rfl) (by kernel_rfl) ?_
                  (refine wq_val (by go_simp) ?_; apply Exists.intro; refine ⟨fun w1 hw1 => ?_, ?_⟩; (obtain ⟨hc, hf⟩ := bcell hw1; clear hw1; go_simp; (try with_reducible rfl)); (try simp only [Act.put, List.setIfInBounds_toArray, List.set_cons_zero, List.set_cons_succ]))
                  (refine wq_val (by go_simp) ?_; apply Exists.intro; refine ⟨fun w1 hw1 => ?_, ?_⟩; (obtain ⟨hc, hf⟩ := bcell hw1; clear hw1; go_simp; (try with_reducible rfl)); (try simp only [Act.put, List.setIfInBounds_toArray, List.set_cons_zero, List.set_cons_succ]))
                  (refine wq_val (by go_simp) ?_; apply Exists.intro; refine ⟨fun w1 hw1 => ?_, ?_⟩; (obtain ⟨hc, hf⟩ := bcell hw1; clear hw1; go_simp; (try with_reducible rfl)); (try simp only [Act.put, List.setIfInBounds_toArray, List.set_cons_zero, List.set_cons_succ]))
                  (refine wq_val (by go_simp) ?_; apply Exists.intro; refine ⟨fun w1 hw1 => ?_, ?_⟩; (obtain ⟨hc, hf⟩ := bcell hw1; clear hw1; go_simp; (try with_reducible rfl)); (try simp only [Act.put, List.setIfInBounds_toArray, List.set_cons_zero, List.set_cons_succ]))
                  (refine wq_val (by go_simp) ?_; apply Exists.intro; refine ⟨fun w1 hw1 => ?_, ?_⟩; (obtain ⟨hc, hf⟩ := bcell hw1; clear hw1; go_simp; (try with_reducible rfl)); (try simp only [Act.put, List.setIfInBounds_toArray, List.set_cons_zero, List.set_cons_succ]))
                  (refine wq_val (by go_simp) ?_; apply Exists.intro; refine ⟨fun w1 hw1 => ?_, ?_⟩; (obtain ⟨hc, hf⟩ := bcell hw1; clear hw1; go_simp; (try with_reducible rfl)); (try simp only [Act.put, List.setIfInBounds_toArray, List.set_cons_zero, List.set_cons_succ]))
                  (refine wq_val (by go_simp) ?_; apply Exists.intro; refine ⟨fun w1 hw1 => ?_, ?_⟩; (obtain ⟨hc, hf⟩ := bcell hw1; clear hw1; go_simp; (try with_reducible rfl)); (try simp only [Act.put, List.setIfInBounds_toArray, List.set_cons_zero, List.set_cons_succ]))
                  (refine wq_val (by go_simp) ?_; apply Exists.intro; refine ⟨fun w1 hw1 => ?_, ?_⟩; (obtain ⟨hc, hf⟩ := bcell hw1; clear hw1; go_simp; (try with_reducible rfl)); (try simp only [Act.put, List.setIfInBounds_toArray, List.set_cons_zero, List.set_cons_succ]))
                  (refine wq_val (by go_simp) ?_; apply Exists.intro; refine ⟨fun w1 hw1 => ?_, ?_⟩; (obtain ⟨hc, hf⟩ := bcell hw1; clear hw1; go_simp; (try with_reducible rfl)); (try simp only [Act.put, List.setIfInBounds_toArray, List.set_cons_zero, List.set_cons_succ]))
                  (refine wq_val (by go_simp) ?_; apply Exists.intro; refine ⟨fun w1 hw1 => ?_, ?_⟩; (obtain ⟨hc, hf⟩ := bcell hw1; clear hw1; go_simp; (try with_reducible rfl)); (try simp only [Act.put, List.setIfInBounds_toArray, List.set_cons_zero, List.set_cons_succ]))
                  (refine wq_val (by go_simp) ?_; apply Exists.intro; refine ⟨fun w1 hw1 => ?_, ?_⟩; (obtain ⟨hc, hf⟩ := bcell hw1; clear hw1; go_simp; (try with_reducible rfl)); (try simp only [Act.put, List.setIfInBounds_toArray, List.set_cons_zero, List.set_cons_succ]))
                  (refine wq_val (by go_simp) ?_; apply Exists.intro; refine ⟨fun w1 hw1 => ?_, ?_⟩; (obtain ⟨hc, hf⟩ := bcell hw1; clear hw1; go_simp; (try with_reducible rfl)); (try simp only [Act.put, List.setIfInBounds_toArray, List.set_cons_zero, List.set_cons_succ]))
                  (refine wq_val (by go_simp) ?_; apply Exists.intro; refine ⟨fun w1 hw1 => ?_, ?_⟩; (obtain ⟨hc, hf⟩ := bcell hw1; clear hw1; go_simp; (try with_reducible rfl)); (try simp only [Act.put, List.setIfInBounds_toArray, List.set_cons_zero, List.set_cons_succ]))
                  (refine wq_val (by go_simp) ?_; apply Exists.intro; refine ⟨fun w1 hw1 => ?_, ?_⟩; (obtain ⟨hc, hf⟩ := bcell hw1; clear hw1; go_simp; (try with_reducible rfl)); (try simp only [Act.put, List.setIfInBounds_toArray, List.set_cons_zero, List.set_cons_succ]))
                  (refine wq_val (by go_simp) ?_; apply Exists.intro; refine ⟨fun w1 hw1 => ?_, ?_⟩; (obtain ⟨hc, hf⟩ := bcell hw1; clear hw1; go_simp; (try with_reducible rfl)); (try simp only [Act.put, List.setIfInBounds_toArray, List.set_cons_zero, List.set_cons_succ]))
                  (refine wq_val (by go_simp) ?_; apply Exists.intro; refine ⟨fun w1 hw1 => ?_, ?_⟩; (obtain ⟨hc, hf⟩ := bcell hw1; clear hw1; go_simp; (try with_reducible rfl)); (try simp only [Act.put, List.setIfInBounds_toArray, List.set_cons_zero, List.set_cons_succ]))
                  (refine wq_val (by go_simp) ?_; apply Exists.intro; refine ⟨fun w1 hw1 => ?_, ?_⟩; (obtain ⟨hc, hf⟩ := bcell hw1; clear hw1; go_simp; (try with_reducible rfl)); (try simp only [Act.put, List.setIfInBounds_toArray, List.set_cons_zero, List.set_cons_succ]))
                  (refine wq_val (by go_simp) ?_; apply Exists.intro; refine ⟨fun w1 hw1 => ?_, ?_⟩; (obtain ⟨hc, hf⟩ := bcell hw1; clear hw1; go_simp; (try with_reducible rfl)); (try simp only [Act.put, List.setIfInBounds_toArray, List.set_cons_zero, List.set_cons_succ]))
                  (refine wq_val (by go_simp) ?_; apply Exists.intro; refine ⟨fun w1 hw1 => ?_, ?_⟩; (obtain ⟨hc, hf⟩ := bcell hw1; clear hw1; go_simp; (try with_reducible rfl)); (try simp only [Act.put, List.setIfInBounds_toArray, List.set_cons_zero, List.set_cons_succ]))
                  (refine wq_val (by go_simp) ?_; apply Exists.intro; refine ⟨fun w1 hw1 => ?_, ?_⟩; (obtain ⟨hc, hf⟩ := bcell hw1; clear hw1; go_simp; (try with_reducible rfl)); (try simp only [Act.put, List.setIfInBounds_toArray, List.set_cons_zero, List.set_cons_succ]))
                  (refine wq_call 87 (by go_simp) ?_; apply Exists.intro; refine ⟨fun w1 hw1 => ?_, ?_⟩; (clear hw1; go_simp; (try with_reducible rfl)); apply Exists.intro; refine ⟨fun w1 hw1 => ?_, ?_⟩; (exact calls_below hw1 (meet_spec _ _ _ _ _ _ _ _ _ O1.out O2.out O4.out O5.out)); (try simp only [Act.put, List.setIfInBounds_toArray, List.set_cons_zero, List.set_cons_succ]))
                  (refine wq_val (by go_simp) ?_; apply Exists.intro; refine ⟨fun w1 hw1 => ?_, ?_⟩; (obtain ⟨hc, hf⟩ := bcell hw1; clear hw1; go_simp; (try with_reducible rfl)); (try simp only [Act.put, List.setIfInBounds_toArray, List.set_cons_zero, List.set_cons_succ]))
                  refine wq_nil ?_
                  intro w9 hb9

                  have HB9 := Lib.hid hb9
                  clear hb9
                  cases hm : tcB x y x v x4 y4 x5 y5
                  · rw [hm] at HCX
                    go_wp2
                    go_roundw
                    case rel => exact ⟨k + 1, by omega, by omega, by go_num, Lib.hid (allTo_succ hcs.out HCX.out), Lib.hid (bseq hw3.out HB9.out)⟩
                    case measure => simp [intOf]; omega
                  · rw [hm] at HCX
                    go_wp2
                    go_ret
                    exact ⟨ret_bool (seen_bad_cell hiz hkz HCX.out).symm, (bseq hb.out HBW.out).trans (HB9.out.mono (by have := hb.out.size; have := HBW.out.size; omega))⟩
              · have HSS := Lib.hid (seen_succ hsn.out HG3.out (k := k) (by have := HZ.out; omega) hcs.out)
                have HBW := Lib.hid (bseq (three_allocs _ _ _) hw3.out)
                go_wp2
                go_roundw
                case rel => exact ⟨i + 1, by omega, by go_num, HSS, Lib.hid (bseq hb.out HBW.out)⟩
                case measure => simp [intOf]; omega
          · clear c0'
            rw [show (decide (x = u) && decide (y = v)) = false by simp; omega, Bool.false_or] at hgo
            have HG2 := Lib.hid hgo
            clear hgo HG
            cases c1 : onB x y u v s t
            rotate_left
            · go_wp2_with fail
              refine (on_spec _ _ _ _ _ _ _ O1.out O2.out O3.out).mono ?_
              rintro e w1 ⟨rfl, hb1⟩
              have HB1 := Lib.hid (bseq ((three_allocs _ _ _).mono (Nat.le_refl _)) hb1)
              rw [c1]
              go_wp2
              go_ret
              exact ⟨ret_bool (seen_bad_go hiz (by rw [HG2.out, c1]; rfl)).symm, bseq hb.out HB1.out⟩
            cases c2 : onB u v s t x y
            rotate_left
            · go_wp2_with fail
              refine (on_spec _ _ _ _ _ _ _ O1.out O2.out O3.out).mono ?_
              rintro e w1 ⟨rfl, hb1⟩
              obtain ⟨k1, q1⟩ := bcell hb1
              have HB1 := Lib.hid (bseq (three_allocs _ _ _) hb1)
              clear hb1
              rw [c1]
              go_wp2_with fail
              refine (on_spec _ _ _ _ _ _ _ O2.out O3.out O1.out).mono ?_
              rintro e w2 ⟨rfl, hb2⟩
              have HB2 := Lib.hid (bseq HB1.out hb2)
              clear hb2
              rw [c2]
              clear k1 q1
              go_wp2
              go_ret
              exact ⟨ret_bool (seen_bad_go hiz (by rw [HG2.out, c1, c2]; rfl)).symm, bseq hb.out HB2.out⟩
            have HG3 := Lib.hid (show goOk zs i = true by rw [HG2.out, c1, c2]; rfl)
            clear HG2
            go_wp2_with fail
            refine (on_spec _ _ _ _ _ _ _ O1.out O2.out O3.out).mono ?_
            rintro e w1 ⟨rfl, hb1⟩
            obtain ⟨k1, q1⟩ := bcell hb1
            have HC1 := Lib.hid hb1
            clear hb1
            rw [c1]
            go_wp2_with fail
            refine (on_spec _ _ _ _ _ _ _ O2.out O3.out O1.out).mono ?_
            rintro e w2 ⟨rfl, hb2⟩
            have HC2 := Lib.hid (bseq HC1.out hb2)
            clear hb2
            rw [c2]
            clear k1 q1
            go_wp2
            go_loopw [9] (fun kv wq => ∃ k : Nat, i + 2 ≤ k ∧ k ≤ len + 2 ∧ kv = .int .i64 k ∧ Hid (allTo (cellOk zs i) k = true) ∧ Hid (Below (((wo.alloc (.cells #[.int .i64 x, .int .i64 y] 90)).alloc (.cells #[.int .i64 u, .int .i64 v] 90)).alloc (.cells #[.int .i64 s, .int .i64 t] 90)).heap.size (((wo.alloc (.cells #[.int .i64 x, .int .i64 y] 90)).alloc (.cells #[.int .i64 u, .int .i64 v] 90)).alloc (.cells #[.int .i64 s, .int .i64 t] 90)) wq)) (fun kv _ => len - (intOf kv).toNat)
            case atStart => exact ⟨i + 2, by omega, by omega, by go_num, Lib.hid (cells_low (Nat.le_refl _)), HC2⟩
            case round =>
              obtain ⟨k, hik, hk2, rfl, hcs, hw3⟩ := hrel
              by_cases hkl : k < len
              · have hkz : k < zs.length := by have := HZ.out; omega
                have hkj : (k + 1) % zs.length < zs.length := Nat.mod_lt _ (by omega)
                have hBW := bseq (three_allocs _ _ _) hw3.out
                have hP := HPP.out.below hBW HPP.out.1
                have hbq := hP.1
                obtain ⟨a0, a1, b0, b1, n2⟩ := three_boxes wo _ _ _ _ _ _ _ _ hw3.out
                have n0 : wo.heap.size < wr.heap.size := by omega
                have n1 : wo.heap.size + 1 < wr.heap.size := by omega
                obtain ⟨x4, y4, e4, o4, r1, r2⟩ := hP.ok HV.out hkz
                obtain ⟨x5, y5, e5, o5, r3, r4⟩ := hP.ok HV.out hkj
                have HCV := Lib.hid (cell_val zs i k hiz hkz hik _ _ _ _ _ _ _ _ E1.out E2.out e4 e5)
                have O4 := Lib.hid o4
                have O5 := Lib.hid o5
                have HGu := Lib.hid (@cell_skip zs i k)
                have ek : IntKind.i64.wrap ((k : Int) + 1) = (k : Int) + 1 := IntWalk.i64_in _ (by omega)
                have gm3 : ((k : Int) + 1) % (len : Int) = (((k + 1) % len : Nat) : Int) := mod_int k 1 len
                have gt3 : ((k : Int) + 1).tmod (len : Int) = (((k + 1) % len : Nat) : Int) := mod_tm k 1 len (by omega)
                rw [← HZ.out] at hkj r3 r4 HCV HGu
                have HCW := HCV
                generalize (k + 1) % len = j3 at gm3 gt3 hkj r3 r4 HCW HGu
                clear e4 e5 o4 o5 hP HCV
                have HBW := Lib.hid hBW
                clear hBW
                have hn0 : len ≠ 0 := by omega
                by_cases hg : j3 = i
                · have hg' : i = j3 := hg.symm
                  subst hg'
                  go_wp2
                  refine wp_region_below (by kernel_rfl) (by kernel_rfl) ?_
                  (refine wq_val (by go_simp) ?_; apply Exists.intro; refine ⟨fun w1 hw1 => ?_, ?_⟩; (obtain ⟨hc, hf⟩ := bcell hw1; clear hw1; go_simp; (try with_reducible rfl)); (try simp only [Act.put, List.setIfInBounds_toArray, List.set_cons_zero, List.set_cons_succ]))
                  (refine wq_val (by go_simp) ?_; apply Exists.intro; refine ⟨fun w1 hw1 => ?_, ?_⟩; (obtain ⟨hc, hf⟩ := bcell hw1; clear hw1; go_simp; (try with_reducible rfl)); (try simp only [Act.put, List.setIfInBounds_toArray, List.set_cons_zero, List.set_cons_succ]))
                  (refine wq_val (by go_simp) ?_; apply Exists.intro; refine ⟨fun w1 hw1 => ?_, ?_⟩; (obtain ⟨hc, hf⟩ := bcell hw1; clear hw1; go_simp; (try with_reducible rfl)); (try simp only [Act.put, List.setIfInBounds_toArray, List.set_cons_zero, List.set_cons_succ]))
                  (refine wq_val (by go_simp) ?_; apply Exists.intro; refine ⟨fun w1 hw1 => ?_, ?_⟩; (obtain ⟨hc, hf⟩ := bcell hw1; clear hw1; go_simp; (try with_reducible rfl)); (try simp only [Act.put, List.setIfInBounds_toArray, List.set_cons_zero, List.set_cons_succ]))
                  (refine wq_val (by go_simp) ?_; apply Exists.intro; refine ⟨fun w1 hw1 => ?_, ?_⟩; (obtain ⟨hc, hf⟩ := bcell hw1; clear hw1; go_simp; (try with_reducible rfl)); (try simp only [Act.put, List.setIfInBounds_toArray, List.set_cons_zero, List.set_cons_succ]))
                  (refine wq_val (by go_simp) ?_; apply Exists.intro; refine ⟨fun w1 hw1 => ?_, ?_⟩; (obtain ⟨hc, hf⟩ := bcell hw1; clear hw1; go_simp; (try with_reducible rfl)); (try simp only [Act.put, List.setIfInBounds_toArray, List.set_cons_zero, List.set_cons_succ]))
                  (refine wq_val (by go_simp) ?_; apply Exists.intro; refine ⟨fun w1 hw1 => ?_, ?_⟩; (obtain ⟨hc, hf⟩ := bcell hw1; clear hw1; go_simp; (try with_reducible rfl)); (try simp only [Act.put, List.setIfInBounds_toArray, List.set_cons_zero, List.set_cons_succ]))
                  (refine wq_skip (by go_simp) ?_; (try simp only [Act.put, List.setIfInBounds_toArray, List.set_cons_zero, List.set_cons_succ]))
                  (refine wq_skip (by go_simp) ?_; (try simp only [Act.put, List.setIfInBounds_toArray, List.set_cons_zero, List.set_cons_succ]))
                  (refine wq_skip (by go_simp) ?_; (try simp only [Act.put, List.setIfInBounds_toArray, List.set_cons_zero, List.set_cons_succ]))
                  (refine wq_skip (by go_simp) ?_; (try simp only [Act.put, List.setIfInBounds_toArray, List.set_cons_zero, List.set_cons_succ]))
                  (refine wq_skip (by go_simp) ?_; (try simp only [Act.put, List.setIfInBounds_toArray, List.set_cons_zero, List.set_cons_succ]))
                  (refine wq_skip (by go_simp) ?_; (try simp only [Act.put, List.setIfInBounds_toArray, List.set_cons_zero, List.set_cons_succ]))
                  (refine wq_skip (by go_simp) ?_; (try simp only [Act.put, List.setIfInBounds_toArray, List.set_cons_zero, List.set_cons_succ]))
                  (refine wq_skip (by go_simp) ?_; (try simp only [Act.put, List.setIfInBounds_toArray, List.set_cons_zero, List.set_cons_succ]))
                  (refine wq_skip (by go_simp) ?_; (try simp only [Act.put, List.setIfInBounds_toArray, List.set_cons_zero, List.set_cons_succ]))
                  (refine wq_skip (by go_simp) ?_; (try simp only [Act.put, List.setIfInBounds_toArray, List.set_cons_zero, List.set_cons_succ]))
                  (refine wq_skip (by go_simp) ?_; (try simp only [Act.put, List.setIfInBounds_toArray, List.set_cons_zero, List.set_cons_succ]))
                  (refine wq_skip (by go_simp) ?_; (try simp only [Act.put, List.setIfInBounds_toArray, List.set_cons_zero, List.set_cons_succ]))
                  (refine wq_skip (by go_simp) ?_; (try simp only [Act.put, List.setIfInBounds_toArray, List.set_cons_zero, List.set_cons_succ]))
                  (refine wq_skip (by go_simp) ?_; (try simp only [Act.put, List.setIfInBounds_toArray, List.set_cons_zero, List.set_cons_succ]))
                  (refine wq_val (by go_simp) ?_; apply Exists.intro; refine ⟨fun w1 hw1 => ?_, ?_⟩; (obtain ⟨hc, hf⟩ := bcell hw1; clear hw1; go_simp; (try with_reducible rfl)); (try simp only [Act.put, List.setIfInBounds_toArray, List.set_cons_zero, List.set_cons_succ]))
                  refine wq_nil ?_
                  intro w9 hb9

                  have HB9 := Lib.hid hb9
                  clear hb9
                  go_wp2
                  go_roundw
                  case rel => exact ⟨k + 1, by omega, by omega, by go_num, Lib.hid (allTo_succ hcs.out (HGu.out trivial)), Lib.hid (bseq hw3.out HB9.out)⟩
                  case measure => simp [intOf]; omega
                · have hn : ((j3 : Int) != (i : Int)) = true := by simp; omega
                  have hn2 : ((j3 : Int) == (i : Int)) = false := by simp; omega
                  have hn3 : decide ((j3 : Int) = (i : Int)) = false := by simp; omega
                  have hcw := HCW.out
                  rw [show decide (j3 ≠ i) = true by simp [hg], Bool.true_and] at hcw
                  have HCX := Lib.hid hcw
                  clear hcw HCW HGu
                  go_wp2
                  refine wp_region_below (by kernel_rfl) (by kernel_rfl) ?_
                  (refine wq_val (by go_simp) ?_; apply Exists.intro; refine ⟨fun w1 hw1 => ?_, ?_⟩; (obtain ⟨hc, hf⟩ := bcell hw1; clear hw1; go_simp; (try with_reducible rfl)); (try simp only [Act.put, List.setIfInBounds_toArray, List.set_cons_zero, List.set_cons_succ]))
                  (refine wq_val (by go_simp) ?_; apply Exists.intro; refine ⟨fun w1 hw1 => ?_, ?_⟩; (obtain ⟨hc, hf⟩ := bcell hw1; clear hw1; go_simp; (try with_reducible rfl)); (try simp only [Act.put, List.setIfInBounds_toArray, List.set_cons_zero, List.set_cons_succ]))
                  (refine wq_val (by go_simp) ?_; apply Exists.intro; refine ⟨fun w1 hw1 => ?_, ?_⟩; (obtain ⟨hc, hf⟩ := bcell hw1; clear hw1; go_simp; (try with_reducible rfl)); (try simp only [Act.put, List.setIfInBounds_toArray, List.set_cons_zero, List.set_cons_succ]))
                  (refine wq_val (by go_simp) ?_; apply Exists.intro; refine ⟨fun w1 hw1 => ?_, ?_⟩; (obtain ⟨hc, hf⟩ := bcell hw1; clear hw1; go_simp; (try with_reducible rfl)); (try simp only [Act.put, List.setIfInBounds_toArray, List.set_cons_zero, List.set_cons_succ]))
                  (refine wq_val (by go_simp) ?_; apply Exists.intro; refine ⟨fun w1 hw1 => ?_, ?_⟩; (obtain ⟨hc, hf⟩ := bcell hw1; clear hw1; go_simp; (try with_reducible rfl)); (try simp only [Act.put, List.setIfInBounds_toArray, List.set_cons_zero, List.set_cons_succ]))
                  (refine wq_val (by go_simp) ?_; apply Exists.intro; refine ⟨fun w1 hw1 => ?_, ?_⟩; (obtain ⟨hc, hf⟩ := bcell hw1; clear hw1; go_simp; (try with_reducible rfl)); (try simp only [Act.put, List.setIfInBounds_toArray, List.set_cons_zero, List.set_cons_succ]))
                  (refine wq_val (by go_simp) ?_; apply Exists.intro; refine ⟨fun w1 hw1 => ?_, ?_⟩; (obtain ⟨hc, hf⟩ := bcell hw1; clear hw1; go_simp; (try with_reducible rfl)); (try simp only [Act.put, List.setIfInBounds_toArray, List.set_cons_zero, List.set_cons_succ]))
                  (refine wq_val (by go_simp) ?_; apply Exists.intro; refine ⟨fun w1 hw1 => ?_, ?_⟩; (obtain ⟨hc, hf⟩ := bcell hw1; clear hw1; go_simp; (try with_reducible rfl)); (try simp only [Act.put, List.setIfInBounds_toArray, List.set_cons_zero, List.set_cons_succ]))
                  (refine wq_val (by go_simp) ?_; apply Exists.intro; refine ⟨fun w1 hw1 => ?_, ?_⟩; (obtain ⟨hc, hf⟩ := bcell hw1; clear hw1; go_simp; (try with_reducible rfl)); (try simp only [Act.put, List.setIfInBounds_toArray, List.set_cons_zero, List.set_cons_succ]))
                  (refine wq_val (by go_simp) ?_; apply Exists.intro; refine ⟨fun w1 hw1 => ?_, ?_⟩; (obtain ⟨hc, hf⟩ := bcell hw1; clear hw1; go_simp; (try with_reducible rfl)); (try simp only [Act.put, List.setIfInBounds_toArray, List.set_cons_zero, List.set_cons_succ]))
                  (refine wq_val (by go_simp) ?_; apply Exists.intro; refine ⟨fun w1 hw1 => ?_, ?_⟩; (obtain ⟨hc, hf⟩ := bcell hw1; clear hw1; go_simp; (try with_reducible rfl)); (try simp only [Act.put, List.setIfInBounds_toArray, List.set_cons_zero, List.set_cons_succ]))
                  (refine wq_val (by go_simp) ?_; apply Exists.intro; refine ⟨fun w1 hw1 => ?_, ?_⟩; (obtain ⟨hc, hf⟩ := bcell hw1; clear hw1; go_simp; (try with_reducible rfl)); (try simp only [Act.put, List.setIfInBounds_toArray, List.set_cons_zero, List.set_cons_succ]))
                  (refine wq_val (by go_simp) ?_; apply Exists.intro; refine ⟨fun w1 hw1 => ?_, ?_⟩; (obtain ⟨hc, hf⟩ := bcell hw1; clear hw1; go_simp; (try with_reducible rfl)); (try simp only [Act.put, List.setIfInBounds_toArray, List.set_cons_zero, List.set_cons_succ]))
                  (refine wq_val (by go_simp) ?_; apply Exists.intro; refine ⟨fun w1 hw1 => ?_, ?_⟩; (obtain ⟨hc, hf⟩ := bcell hw1; clear hw1; go_simp; (try with_reducible rfl)); (try simp only [Act.put, List.setIfInBounds_toArray, List.set_cons_zero, List.set_cons_succ]))
                  (refine wq_val (by go_simp) ?_; apply Exists.intro; refine ⟨fun w1 hw1 => ?_, ?_⟩; (obtain ⟨hc, hf⟩ := bcell hw1; clear hw1; go_simp; (try with_reducible rfl)); (try simp only [Act.put, List.setIfInBounds_toArray, List.set_cons_zero, List.set_cons_succ]))
                  (refine wq_val (by go_simp) ?_; apply Exists.intro; refine ⟨fun w1 hw1 => ?_, ?_⟩; (obtain ⟨hc, hf⟩ := bcell hw1; clear hw1; go_simp; (try with_reducible rfl)); (try simp only [Act.put, List.setIfInBounds_toArray, List.set_cons_zero, List.set_cons_succ]))
                  (refine wq_val (by go_simp) ?_; apply Exists.intro; refine ⟨fun w1 hw1 => ?_, ?_⟩; (obtain ⟨hc, hf⟩ := bcell hw1; clear hw1; go_simp; (try with_reducible rfl)); (try simp only [Act.put, List.setIfInBounds_toArray, List.set_cons_zero, List.set_cons_succ]))
                  (refine wq_val (by go_simp) ?_; apply Exists.intro; refine ⟨fun w1 hw1 => ?_, ?_⟩; (obtain ⟨hc, hf⟩ := bcell hw1; clear hw1; go_simp; (try with_reducible rfl)); (try simp only [Act.put, List.setIfInBounds_toArray, List.set_cons_zero, List.set_cons_succ]))
                  (refine wq_val (by go_simp) ?_; apply Exists.intro; refine ⟨fun w1 hw1 => ?_, ?_⟩; (obtain ⟨hc, hf⟩ := bcell hw1; clear hw1; go_simp; (try with_reducible rfl)); (try simp only [Act.put, List.setIfInBounds_toArray, List.set_cons_zero, List.set_cons_succ]))
                  (refine wq_val (by go_simp) ?_; apply Exists.intro; refine ⟨fun w1 hw1 => ?_, ?_⟩; (obtain ⟨hc, hf⟩ := bcell hw1; clear hw1; go_simp; (try with_reducible rfl)); (try simp only [Act.put, List.setIfInBounds_toArray, List.set_cons_zero, List.set_cons_succ]))
                  (refine wq_call 87 (by go_simp) ?_; apply Exists.intro; refine ⟨fun w1 hw1 => ?_, ?_⟩; (clear hw1; go_simp; (try with_reducible rfl)); apply Exists.intro; refine ⟨fun w1 hw1 => ?_, ?_⟩; (exact calls_below hw1 (meet_spec _ _ _ _ _ _ _ _ _ O1.out O2.out O4.out O5.out)); (try simp only [Act.put, List.setIfInBounds_toArray, List.set_cons_zero, List.set_cons_succ]))
                  (refine wq_val (by go_simp) ?_; apply Exists.intro; refine ⟨fun w1 hw1 => ?_, ?_⟩; (obtain ⟨hc, hf⟩ := bcell hw1; clear hw1; go_simp; (try with_reducible rfl)); (try simp only [Act.put, List.setIfInBounds_toArray, List.set_cons_zero, List.set_cons_succ]))
                  refine wq_nil ?_
                  intro w9 hb9

                  have HB9 := Lib.hid hb9
                  clear hb9
                  cases hm : tcB x y u v x4 y4 x5 y5
                  · rw [hm] at HCX
                    go_wp2
                    go_roundw
                    case rel => exact ⟨k + 1, by omega, by omega, by go_num, Lib.hid (allTo_succ hcs.out HCX.out), Lib.hid (bseq hw3.out HB9.out)⟩
                    case measure => simp [intOf]; omega
                  · rw [hm] at HCX
                    go_wp2
                    go_ret
                    exact ⟨ret_bool (seen_bad_cell hiz hkz HCX.out).symm, (bseq hb.out HBW.out).trans (HB9.out.mono (by have := hb.out.size; have := HBW.out.size; omega))⟩
              · have HSS := Lib.hid (seen_succ hsn.out HG3.out (k := k) (by have := HZ.out; omega) hcs.out)
                have HBW := Lib.hid (bseq (three_allocs _ _ _) hw3.out)
                go_wp2
                go_roundw
                case rel => exact ⟨i + 1, by omega, by go_num, HSS, Lib.hid (bseq hb.out HBW.out)⟩
                case measure => simp [intOf]; omega
        · go_wp2_with fail
          refine (area_spec b len cap zs _ HZ.out (by omega) hl HV.out (HP.out.below hb.out HP.out.1)).mono ?_
          rintro e w1 ⟨rfl, hb1⟩
          have HB1 := Lib.hid hb1
          clear hb1
          go_wp2
          go_ret
          exact ⟨ret_bool (seen_all (by have := HZ.out; omega) (by have := HZ.out; omega) HV.out (by have := HZ.out; omega) hsn.out).symm, bseq hb.out HB1.out⟩
end Go.Proofs.YtmfchcaidfloaaaDoor
namespace Go.Proofs.YtmfchcaidfloaaaDoor
open Go.ChangeShapes Go.WideShapes Go.ChangeAt Go.RowKit
set_option linter.unusedVariables false

set_option maxHeartbeats 400000 in
theorem corner_any (b len cap k : Nat) (zs : List P2) (w : World) (hz : len = zs.length) (h1 : 1 ≤ len) (hl : len ≤ 1000) (hk : k ≤ 2000) (hp : PtsAt w b zs) :
    Calls Tryd.prog 127 #[.slice (some ⟨b, 0, none⟩) len cap, .int .i64 k] w fun e w' => e = .returned (.agg #[.int .i64 (pt zs k).1, .int .i64 (pt zs k).2]) ∧ Below w.heap.size w w' := by
  have HZ := Lib.hid hz
  have HP := Lib.hid hp
  clear hz hp
  have hj : k % zs.length < zs.length := Nat.mod_lt _ (by have := HZ.out; omega)
  obtain ⟨x, y, e1, c1, c2⟩ := HP.out.pt hj
  have hbw := HP.out.1
  rw [show pt zs k = (x, y) from e1]
  clear e1
  rw [← HZ.out] at hj c1 c2
  have gm : (k : Int) % (len : Int) = ((k % len : Nat) : Int) := by simp
  generalize k % len = j at *
  go_enter Tryd.func127, Tryd.ntmps127
  go_wp2
  exact bodyPost_ret (v := .agg #[.int .i64 x, .int .i64 y]) (by simp [results, Tryd.results127, go_sem]) rfl ⟨rfl, one_alloc _⟩
theorem pt_add (zs : List P2) (k : Nat) : pt zs (k % zs.length) = pt zs k := by simp [pt]
theorem go_val2 (zs : List P2) (k : Nat) (x y u v s t : Int) (h0 : pt zs k = (x, y)) (h1 : pt zs (k + 1) = (u, v)) (h2 : pt zs (k + 2) = (s, t)) :
    goOk zs k = !((decide (x = u) && decide (y = v)) || onB x y u v s t || onB u v s t x y) := by
  unfold goOk
  rw [h0, h1, h2]; rfl
theorem goB_bad {zs : List P2} {k : Nat} (hk : k < zs.length) (h : goOk zs k = false) : goB zs = false := allTo_bad hk h
theorem pt_eta (zs : List P2) (k : Nat) : ∃ x y, pt zs k = (x, y) := ⟨_, _, rfl⟩
theorem grow3 {w wr w3 w4 : World} {o1 o2 o3 : Obj} (hb : Below w.heap.size w wr) (h3 : Below wr.heap.size wr w3) (h4 : Below (((w3.alloc o1).alloc o2).alloc o3).heap.size (((w3.alloc o1).alloc o2).alloc o3) w4) : Below w.heap.size w w4 :=
  bseq (bseq hb h3) (bseq (three_allocs _ _ _) h4)
set_option maxRecDepth 100000 in
set_option maxHeartbeats 4000000 in
theorem goesOn_any (b len cap : Nat) (zs : List P2) (w : World) (hz : len = zs.length) (h3 : 3 ≤ len) (hl : len ≤ 24) (hv : allOk zs = true) (hp : PtsAt w b zs) :
    Calls Tryd.prog 112 #[.slice (some ⟨b, 0, none⟩) len cap] w fun e w' => e = .returned (.bool (goB zs)) ∧ Below w.heap.size w w' := by
  have HZ := Lib.hid hz
  have HP := Lib.hid hp
  have HV := Lib.hid hv
  clear hz hp hv
  go_enter Tryd.func112, Tryd.ntmps112
  go_wp2
  go_loopw [11] (fun i wr => ∃ k : Nat, k ≤ len ∧ i = .int .i64 k ∧ Hid (allTo (goOk zs) k = true) ∧ Hid (Below w.heap.size w wr)) (fun i _ => len - (intOf i).toNat)
  case atStart => exact ⟨0, by omega, rfl, Lib.hid rfl, Lib.hid (Below.refl _ _)⟩
  case round =>
    obtain ⟨k, hk, rfl, hg, hb⟩ := hrel
    by_cases hlt : k < len
    · have hkz : k < zs.length := by have := HZ.out; omega
      have HPP := Lib.hid (HP.out.below hb.out HP.out.1)
      have hwb := HPP.out.1
      obtain ⟨xa, ya, e1⟩ := pt_eta zs k
      obtain ⟨xb, yb, e2⟩ := pt_eta zs (k + 1)
      obtain ⟨xc, yc, e3⟩ := pt_eta zs (k + 2)
      have hA := pt_ok HV.out (by omega) k
      have hB := pt_ok HV.out (by omega) (k + 1)
      have hC := pt_ok HV.out (by omega) (k + 2)
      have HG := Lib.hid (go_val2 zs k _ _ _ _ _ _ e1 e2 e3)
      rw [e1] at hA
      rw [e2] at hB
      rw [e3] at hC
      have HA := Lib.hid hA
      have HB := Lib.hid hB
      have HC := Lib.hid hC
      have E1 := Lib.hid e1
      have E2 := Lib.hid e2
      have E3 := Lib.hid e3
      clear e1 e2 e3 hA hB hC
      go_wp2_with fail
      refine (corner_any b len cap k zs _ HZ.out (by omega) (by omega) (by omega) HPP.out).mono ?_
      rintro e w1 ⟨rfl, g1⟩
      have HW1 := Lib.hid g1
      clear g1
      rw [E1.out]
      go_wp2_with fail
      refine (corner_any b len cap (k + 1) zs _ HZ.out (by omega) (by omega) (by omega) (HPP.out.below HW1.out hwb)).mono ?_
      rintro e w2 ⟨rfl, g2⟩
      have HW2 := Lib.hid (bseq HW1.out g2)
      clear g2
      rw [E2.out]
      go_wp2_with fail
      refine (corner_any b len cap (k + 2) zs _ HZ.out (by omega) (by omega) (by omega) (HPP.out.below HW2.out hwb)).mono ?_
      rintro e w3 ⟨rfl, g3⟩
      have HW3 := Lib.hid (bseq HW2.out g3)
      clear g3
      rw [E3.out]
      go_wp2
      refine wp_region_plan [.val 0 [] (.agg #[.int .i64 xa, .int .i64 ya]), .val 1 [] (.agg #[.int .i64 xb, .int .i64 yb]), .val 2 [] (.agg #[.int .i64 xa, .int .i64 ya, .int .i64 xb, .int .i64 yb]), .val 3 [] (.agg #[.int .i64 xb, .int .i64 yb]), .val 4 [] (.agg #[.int .i64 xc, .int .i64 yc]), .val 5 [] (.agg #[.int .i64 xb, .int .i64 yb, .int .i64 xc, .int .i64 yc]), .make 6 (.cells #[.int .i64 0, .int .i64 0, .int .i64 0, .int .i64 0] 159 (0, 0)) (fun p => .pointer (some ⟨p, 0, none⟩)), .make 7 (.cells #[.int .i64 0, .int .i64 0, .int .i64 0, .int .i64 0] 159 (0, 0)) (fun p => .pointer (some ⟨p, 0, none⟩)), .put 8 6 (.cells #[.int .i64 xa, .int .i64 ya, .int .i64 xb, .int .i64 yb] 159 (0, 0)), .put 9 7 (.cells #[.int .i64 xb, .int .i64 yb, .int .i64 xc, .int .i64 yc] 159 (0, 0))] (by kernel_rfl) (by kernel_rfl) rfl ?_
      refine plan_val (by kernel_rfl) (by kernel_rfl) (by kernel_rfl) (by go_simp) (fun w1 hw1 => ?_) ?_
      · obtain ⟨hc, hf⟩ := bcell hw1; clear hw1; go_simp; (try with_reducible rfl)
      (try simp only [Act.put, List.setIfInBounds_toArray, List.set_cons_zero, List.set_cons_succ])
      refine plan_val (by kernel_rfl) (by kernel_rfl) (by kernel_rfl) (by go_simp) (fun w1 hw1 => ?_) ?_
      · obtain ⟨hc, hf⟩ := bcell hw1; clear hw1; go_simp; (try with_reducible rfl)
      (try simp only [Act.put, List.setIfInBounds_toArray, List.set_cons_zero, List.set_cons_succ])
      refine plan_val (by kernel_rfl) (by kernel_rfl) (by kernel_rfl) (by go_simp) (fun w1 hw1 => ?_) ?_
      · obtain ⟨hc, hf⟩ := bcell hw1; clear hw1; go_simp; (try with_reducible rfl)
      (try simp only [Act.put, List.setIfInBounds_toArray, List.set_cons_zero, List.set_cons_succ])
      refine plan_val (by kernel_rfl) (by kernel_rfl) (by kernel_rfl) (by go_simp) (fun w1 hw1 => ?_) ?_
      · obtain ⟨hc, hf⟩ := bcell hw1; clear hw1; go_simp; (try with_reducible rfl)
      (try simp only [Act.put, List.setIfInBounds_toArray, List.set_cons_zero, List.set_cons_succ])
      refine plan_val (by kernel_rfl) (by kernel_rfl) (by kernel_rfl) (by go_simp) (fun w1 hw1 => ?_) ?_
      · obtain ⟨hc, hf⟩ := bcell hw1; clear hw1; go_simp; (try with_reducible rfl)
      (try simp only [Act.put, List.setIfInBounds_toArray, List.set_cons_zero, List.set_cons_succ])
      refine plan_val (by kernel_rfl) (by kernel_rfl) (by kernel_rfl) (by go_simp) (fun w1 hw1 => ?_) ?_
      · obtain ⟨hc, hf⟩ := bcell hw1; clear hw1; go_simp; (try with_reducible rfl)
      (try simp only [Act.put, List.setIfInBounds_toArray, List.set_cons_zero, List.set_cons_succ])
      refine plan_make (by kernel_rfl) (by kernel_rfl) (by go_simp) (fun w1 => ?_) (fun p6 hp6 => ?_)
      · go_simp; (try with_reducible rfl)
      (try simp only [Act.put, List.setIfInBounds_toArray, List.set_cons_zero, List.set_cons_succ])
      refine plan_make (by kernel_rfl) (by kernel_rfl) (by go_simp) (fun w1 => ?_) (fun p7 hp7 => ?_)
      · go_simp; (try with_reducible rfl)
      (try simp only [Act.put, List.setIfInBounds_toArray, List.set_cons_zero, List.set_cons_succ])
      refine plan_put (p := p6) (by kernel_rfl) (by kernel_rfl) (by kernel_rfl) (by kernel_rfl) (by go_simp) (Or.inr (Or.inl rfl)) (fun w1 hg hh => ?_) ?_
      · obtain ⟨c0, f0, c1, f1, c2, f2, c3, f3⟩ := cells4_of hh
        refine ⟨_, ?_, stored4 hh⟩
        clear hh hg; go_simp; (try with_reducible rfl)
      (try simp only [Act.put])
      refine plan_put (p := p7) (by kernel_rfl) (by kernel_rfl) (by kernel_rfl) (by kernel_rfl) (by go_simp) (Or.inl ⟨Or.inl rfl, (fun h => by cases h)⟩) (fun w1 hg hh => ?_) ?_
      · obtain ⟨c0, f0, c1, f1, c2, f2, c3, f3⟩ := cells4_of hh
        refine ⟨_, ?_, stored4 hh⟩
        clear hh hg; go_simp; (try with_reducible rfl)
      (try simp only [Act.put])
      refine plan_done (by kernel_rfl) (fun w4 hC => ?_)
      obtain ⟨b6, s6, g6⟩ := hC.2 ⟨6, p6, _⟩ (Or.inl ⟨Or.inr ⟨⟨6, p6, _⟩, Or.inr (Or.inl rfl), rfl, rfl⟩, (fun h => by cases h)⟩)
      obtain ⟨b7, s7, g7⟩ := hC.2 ⟨7, p7, _⟩ (Or.inr ⟨⟨7, p7, _⟩, Or.inl ⟨Or.inl rfl, (fun h => by cases h)⟩, rfl, rfl⟩)
      obtain ⟨c60, f60, c61, f61, c62, f62, c63, f63⟩ := cells4_of g6
      obtain ⟨c70, f70, c71, f71, c72, f72, c73, f73⟩ := cells4_of g7
      have HB4 := Lib.hid hC.1
      obtain ⟨k4, q4⟩ := bcell hC.1
      clear hC g6 g7 f60 f61 f62 f63 f70 f71 f72 f73 hp6 hp7
      have n0 : w3.heap.size < w4.heap.size := by have := HB4.out.size; simp at this; omega
      have n1 : w3.heap.size + 1 < w4.heap.size := by have := HB4.out.size; simp at this; omega
      have n2 : w3.heap.size + 1 + 1 < w4.heap.size := by have := HB4.out.size; simp at this; omega
      have a0 : w4.cell? ⟨w3.heap.size, 0, none⟩ = some (.int .i64 xa) := by rw [k4 _ _ (by simp <;> omega)]; go_simp
      have a1 : w4.cell? ⟨w3.heap.size, 1, none⟩ = some (.int .i64 ya) := by rw [k4 _ _ (by simp <;> omega)]; go_simp
      have a2 : w4.cell? ⟨w3.heap.size + 1, 0, none⟩ = some (.int .i64 xb) := by rw [k4 _ _ (by simp <;> omega)]; go_simp
      have a3 : w4.cell? ⟨w3.heap.size + 1, 1, none⟩ = some (.int .i64 yb) := by rw [k4 _ _ (by simp <;> omega)]; go_simp
      have a4 : w4.cell? ⟨w3.heap.size + 1 + 1, 0, none⟩ = some (.int .i64 xc) := by rw [k4 _ _ (by simp <;> omega)]; go_simp
      have a5 : w4.cell? ⟨w3.heap.size + 1 + 1, 1, none⟩ = some (.int .i64 yc) := by rw [k4 _ _ (by simp <;> omega)]; go_simp
      clear k4 q4
      cases c0 : (decide (xa = xb) && decide (ya = yb))
      rotate_left
      · obtain ⟨rfl, rfl⟩ : xa = xb ∧ ya = yb := by simpa using c0
        go_wp2
        go_ret
        exact ⟨ret_bool (goB_bad hkz (by rw [HG.out]; simp)).symm, grow3 hb.out HW3.out HB4.out⟩
      have c0' : ¬ (xa = xb ∧ ya = yb) := by simpa using c0
      have HG2 := HG
      rw [c0, Bool.false_or] at HG2
      clear HG c0
      have hxu : xa ≠ xb ∨ xa = xb := by omega
      rcases hxu with hxu | hxu
      rotate_left
      · subst hxu
        have hyv : ya ≠ yb := fun h => c0' ⟨rfl, h⟩
        clear c0'
        cases c1 : onB xa ya xa yb xc yc
        rotate_left
        · go_wp2_with fail
          refine (contains_any _ _ _ _ _ _ _ HA.out HB.out HC.out).mono ?_
          rintro e w5 ⟨rfl, hb5⟩
          have HB5 := Lib.hid hb5
          clear hb5
          rw [c1]
          go_wp2
          go_ret
          exact ⟨ret_bool (goB_bad hkz (by rw [HG2.out, c1]; rfl)).symm, bseq (grow3 hb.out HW3.out HB4.out) HB5.out⟩
        cases c2 : onB xa yb xc yc xa ya
        all_goals
          go_wp2_with fail
          refine (contains_any _ _ _ _ _ _ _ HA.out HB.out HC.out).mono ?_
          rintro e w5 ⟨rfl, hb5⟩
          obtain ⟨k5, q5⟩ := bcell hb5
          have HB5 := Lib.hid hb5
          clear hb5
          rw [c1]
          go_wp2_with fail
          refine (contains_any _ _ _ _ _ _ _ HB.out HC.out HA.out).mono ?_
          rintro e w6 ⟨rfl, hb6⟩
          have HB6 := Lib.hid (bseq HB5.out hb6)
          clear hb6
          rw [c2]
          clear k5 q5
          go_wp2
        · go_roundw
          case rel => exact ⟨k + 1, by omega, by go_num, Lib.hid (allTo_succ hg.out (by rw [HG2.out, c1, c2]; rfl)), Lib.hid (bseq (grow3 hb.out HW3.out HB4.out) HB6.out)⟩
          case measure => simp [intOf]; omega
        · go_ret
          exact ⟨ret_bool (goB_bad hkz (by rw [HG2.out, c1, c2]; rfl)).symm, bseq (grow3 hb.out HW3.out HB4.out) HB6.out⟩
      · clear c0'
        cases c1 : onB xa ya xb yb xc yc
        rotate_left
        · go_wp2_with fail
          refine (contains_any _ _ _ _ _ _ _ HA.out HB.out HC.out).mono ?_
          rintro e w5 ⟨rfl, hb5⟩
          have HB5 := Lib.hid hb5
          clear hb5
          rw [c1]
          go_wp2
          go_ret
          exact ⟨ret_bool (goB_bad hkz (by rw [HG2.out, c1]; rfl)).symm, bseq (grow3 hb.out HW3.out HB4.out) HB5.out⟩
        cases c2 : onB xb yb xc yc xa ya
        all_goals
          go_wp2_with fail
          refine (contains_any _ _ _ _ _ _ _ HA.out HB.out HC.out).mono ?_
          rintro e w5 ⟨rfl, hb5⟩
          obtain ⟨k5, q5⟩ := bcell hb5
          have HB5 := Lib.hid hb5
          clear hb5
          rw [c1]
          go_wp2_with fail
          refine (contains_any _ _ _ _ _ _ _ HB.out HC.out HA.out).mono ?_
          rintro e w6 ⟨rfl, hb6⟩
          have HB6 := Lib.hid (bseq HB5.out hb6)
          clear hb6
          rw [c2]
          clear k5 q5
          go_wp2
        · go_roundw
          case rel => exact ⟨k + 1, by omega, by go_num, Lib.hid (allTo_succ hg.out (by rw [HG2.out, c1, c2]; rfl)), Lib.hid (bseq (grow3 hb.out HW3.out HB4.out) HB6.out)⟩
          case measure => simp [intOf]; omega
        · go_ret
          exact ⟨ret_bool (goB_bad hkz (by rw [HG2.out, c1, c2]; rfl)).symm, bseq (grow3 hb.out HW3.out HB4.out) HB6.out⟩
    · go_wp2
      go_ret
      exact ⟨ret_bool (by rw [goB, ← HZ.out, show len = k by omega, hg.out]), hb.out⟩
end Go.Proofs.YtmfchcaidfloaaaDoor
namespace Go.Proofs.YtmfchcaidfloaaaDoor
attribute [local go_sem] Oper.semAt_some
open Go.Shelf Go.ChangeShapes Go.WideShapes Go.ChangeAt Go.RowKit
set_option linter.unusedVariables false

/-- The edge with a number, as a value. -/
def segV (zs : List P2) (k : Nat) : Value := .agg #[.int .i64 (pt zs k).1, .int .i64 (pt zs k).2, .int .i64 (pt zs (k + 1)).1, .int .i64 (pt zs (k + 1)).2]
def EdgesPost (v : Value) (w : World) (e : Ending) (w' : World) : Prop := ∃ B, e = .returned (.func (.func 154) #[] #[.pointer (some ⟨B, 0, none⟩)]) ∧ MadeAt w w' B (.cells #[v] 127 (0, 0))
theorem edges_any (ao : Option Addr) (len cap : Nat) (w : World) : Calls Tryd.prog 130 #[.slice ao len cap] w (EdgesPost (.slice ao len cap) w) := by
  go_enter Tryd.func130, Tryd.ntmps130
  go_wp2
  go_ret
  exact ⟨w.heap.size, rfl, madeAt_alloc _ _⟩
theorem grown_none {w w' : World} (h : Below w.heap.size w w') : w.grownBy w' none := ⟨h.os, h.tape, h.output, h.size, fun k hk _ => h.block k hk⟩
theorem range_snoc (k : Nat) : List.range (k + 1) = List.range k ++ [k] := by simp [List.range_succ]
theorem below_low {B : Nat} {w w' : World} (h : Below w.heap.size w w') (hB : B ≤ w.heap.size) : Below B w w' := h.mono hB

/-- The two blocks that the iterator reads, its variable and the points, are as they were. -/
structure Keep2 (b B : Nat) (W W' : World) : Prop where
  size : W.heap.size ≤ W'.heap.size
  pts : W'.heap[b]? = W.heap[b]?
  var : W'.heap[B]? = W.heap[B]?
theorem Keep2.refl (b B : Nat) (W : World) : Keep2 b B W W := ⟨Nat.le_refl _, rfl, rfl⟩
theorem Keep2.trans {b B : Nat} {W W1 W2 : World} (h : Keep2 b B W W1) (k : Keep2 b B W1 W2) : Keep2 b B W W2 := ⟨Nat.le_trans h.size k.size, k.pts.trans h.pts, k.var.trans h.var⟩
theorem Keep2.of_below {n0 b B : Nat} {W W1 : World} (h : Below n0 W W1) (hb : b < n0) (hB : B < n0) : Keep2 b B W W1 := ⟨h.size, h.block _ hb, h.block _ hB⟩
theorem Keep2.putObj {b B : Nat} {w : World} (hb : b < w.heap.size) (hB : B < w.heap.size) (W : World) (l : Nat) (o' : Obj) (hl : w.heap.size ≤ l) : Keep2 b B W (W.putObj l o') :=
  ⟨by simp [World.putObj], World.putObj_heap_other (by omega), World.putObj_heap_other (by omega)⟩
theorem Keep2.setCell {b B : Nat} {W : World} {p : Addr} (hb : p.block ≠ b) (hB : p.block ≠ B) (v : Value) : Keep2 b B W (W.setCell p v) :=
  ⟨by simp [World.setCell], Below.heap_setCell _ _ _ _ (by omega), Below.heap_setCell _ _ _ _ (by omega)⟩
theorem PtsAt.keep {b B : Nat} {W W' : World} {zs : List P2} (h : PtsAt W b zs) (hk : Keep2 b B W W') : PtsAt W' b zs :=
  ⟨Nat.lt_of_lt_of_le h.1 hk.size, fun j hj => ⟨(World.cell?_of_block (w := W) (a := ⟨b, j * 2, none⟩) hk.pts).trans (h.2 j hj).1, (World.cell?_of_block (w := W) (a := ⟨b, j * 2 + 1, none⟩) hk.pts).trans (h.2 j hj).2⟩⟩

theorem abides_mono {β : Type} {B B2 : Nat} {J : β → World → Prop} (h : AbidesFrom B J) (hB : B ≤ B2) : AbidesFrom B2 J := fun s W W' row hs hg hr => h s W W' row hs hg (fun r e => ⟨Nat.le_trans hB (hr r e).1, (hr r e).2⟩)
set_option maxRecDepth 100000 in
set_option maxHeartbeats 4000000 in
theorem edges1_in (n l Bs b len cap : Nat) (zs : List P2) (hz : len = zs.length) (h1 : 1 ≤ len) (hl : len ≤ 1000) (J Jx : List Nat → World → Prop)
    (hY : ∀ pre x W, J pre W → pre.length < len → YieldAt Fence.wide (n - 1) Tryd.prog l #[segV zs x] W fun e W' => (e = .returned (.bool true) ∧ J (pre ++ [x]) W' ∧ Keep2 b Bs W W') ∨ (e = .returned (.bool false) ∧ Jx (pre ++ [x]) W'))
    (W : World) (hBW : Bs < W.heap.size) (hJ : AbidesFrom W.heap.size J) (hBs : W.cell? ⟨Bs, 0, none⟩ = some (.slice (some ⟨b, 0, none⟩) len cap)) (hp : PtsAt W b zs) (h0 : J [] W) :
    CallsIn Fence.wide n Tryd.prog 154 #[.func (.yield l) #[] #[], .pointer (some ⟨Bs, 0, none⟩)] W fun e W' => (∃ v, e = .returned v) ∧
      ((∃ xs, xs = List.range len ∧ J xs W') ∨ (∃ pre, (∃ k, k ≤ len ∧ pre = List.range k) ∧ Jx pre W')) := by
  have HZ := Lib.hid hz
  have HP := Lib.hid hp
  have HBs := Lib.hid hBs
  clear hz hp hBs
  refine callsIn_of_wp Tryd.func154 rfl trivial ?_ rfl
  simp only [Tryd.ntmps154, List.size_toArray, List.length_cons, List.length_nil, Nat.reduceAdd, Nat.reduceSub, Array.replicate_succ, Array.replicate_zero, List.push_toArray, List.append_toArray, List.nil_append, List.cons_append]
  have hBs := HBs.out
  gi_wp2
  gi_loopw [7] (fun i wr => ∃ k : Nat, k ≤ len ∧ i = .int .i64 k ∧ Hid (J (List.range k) wr) ∧ Hid (Keep2 b Bs W wr)) (fun i _ => len - (intOf i).toNat)
  case atStart => exact ⟨0, Nat.zero_le _, rfl, Lib.hid h0, Lib.hid (Keep2.refl _ _ _)⟩
  case round =>
    clear hBs
    obtain ⟨k, hk, rfl, hJs, hnx⟩ := hrel
    by_cases hlt : k < len
    · have hkz : k < zs.length := by have := HZ.out; omega
      have hs := hnx.out.size
      have HPP := Lib.hid (HP.out.keep hnx.out)
      have hbs := (World.cell?_of_block (w := W) (a := ⟨Bs, 0, none⟩) hnx.out.var).trans HBs.out
      have hbw : b < wr.heap.size := HPP.out.1
      have hBw : Bs < wr.heap.size := by omega
      obtain ⟨x, y, e1, c1, c2⟩ := HPP.out.pt hkz
      rw [← pt_lt hkz] at e1
      have E1 := Lib.hid e1
      clear e1
      have ek : IntKind.i64.wrap ((k : Int) + 1) = (k : Int) + 1 := IntWalk.i64_in _ (by omega)
      gi_wp2
      refine wpIn_region_plan (grants_any _ _ _) 2 [7, 8] [.val 0 [] (.func (.yield l) #[] #[]), .val 1 [] (.agg #[.int .i64 x, .int .i64 y]), .val 2 [] (.slice (some ⟨b, 0, none⟩) len cap), .val 3 [] (.int .i64 k), .val 4 [] (.int .i64 ((k : Int) + 1)), .val 5 [] (.agg #[.int .i64 (pt zs (k + 1)).1, .int .i64 (pt zs (k + 1)).2]), .val 6 [] (.agg #[.int .i64 x, .int .i64 y, .int .i64 (pt zs (k + 1)).1, .int .i64 (pt zs (k + 1)).2])] (by kernel_rfl) (by kernel_rfl) rfl ?_
      refine plan_val (by kernel_rfl) (by kernel_rfl) (by kernel_rfl) (by go_simp) (fun w1 hw1 => ?_) ?_
      · obtain ⟨hc, hf⟩ := bcell hw1; clear hw1; go_simp; (try with_reducible rfl)
      (try simp only [Act.put, List.setIfInBounds_toArray, List.set_cons_zero, List.set_cons_succ])
      refine plan_val (by kernel_rfl) (by kernel_rfl) (by kernel_rfl) (by go_simp) (fun w1 hw1 => ?_) ?_
      · obtain ⟨hc, hf⟩ := bcell hw1; clear hw1; go_simp; (try with_reducible rfl)
      (try simp only [Act.put, List.setIfInBounds_toArray, List.set_cons_zero, List.set_cons_succ])
      refine plan_val (by kernel_rfl) (by kernel_rfl) (by kernel_rfl) (by go_simp) (fun w1 hw1 => ?_) ?_
      · obtain ⟨hc, hf⟩ := bcell hw1; clear hw1; go_simp; (try with_reducible rfl)
      (try simp only [Act.put, List.setIfInBounds_toArray, List.set_cons_zero, List.set_cons_succ])
      refine plan_val (by kernel_rfl) (by kernel_rfl) (by kernel_rfl) (by go_simp) (fun w1 hw1 => ?_) ?_
      · obtain ⟨hc, hf⟩ := bcell hw1; clear hw1; go_simp; (try with_reducible rfl)
      (try simp only [Act.put, List.setIfInBounds_toArray, List.set_cons_zero, List.set_cons_succ])
      refine plan_val (by kernel_rfl) (by kernel_rfl) (by kernel_rfl) (by go_simp) (fun w1 hw1 => ?_) ?_
      · obtain ⟨hc, hf⟩ := bcell hw1; clear hw1; go_simp; (try with_reducible rfl)
      (try simp only [Act.put, List.setIfInBounds_toArray, List.set_cons_zero, List.set_cons_succ])
      refine plan_call [] 127 #[.slice (some ⟨b, 0, none⟩) len cap, .int .i64 ((k : Int) + 1)] (by kernel_rfl) (by kernel_rfl) (by kernel_rfl) (by kernel_rfl) (by go_simp) (fun w1 hw1 => ?_) (fun w1 hC => ?_) ?_
      · clear hw1; go_simp; (try with_reducible rfl)
      · exact corner_any b len cap (k + 1) zs _ HZ.out (by omega) (by omega) (by omega) (HPP.out.below (bseq (one_alloc _) hC.1) HPP.out.1)
      (try simp only [Act.put, List.setIfInBounds_toArray, List.set_cons_zero, List.set_cons_succ])
      refine plan_val (by kernel_rfl) (by kernel_rfl) (by kernel_rfl) (by go_simp) (fun w1 hw1 => ?_) ?_
      · obtain ⟨hc, hf⟩ := bcell hw1; clear hw1; go_simp; (try with_reducible rfl)
      (try simp only [Act.put, List.setIfInBounds_toArray, List.set_cons_zero, List.set_cons_succ])
      refine plan_tail (fun _ => trivial) (by kernel_rfl) (by kernel_rfl) rfl (fun w2 hC => ?_)
      have HB2 := Lib.hid hC.1
      have HBW := Lib.hid (bseq (one_alloc _) HB2.out)
      clear hC
      have hJ2 : J (List.range k) w2 := abides_mono hJ (by omega) _ _ _ none hJs.out (grown_none HBW.out) (fun r e => by cases e)
      obtain ⟨fn, tmps, assign, body, hy, hR⟩ := hY _ k w2 hJ2 (by simpa using hlt)
      unfold segV at hy
      rw [E1.out] at hy
      have HR := Lib.hid hR
      clear hR
      gi_wp2
      refine ⟨fun h => (by cases h), HR.out.mono ?_⟩
      rintro e W3 (⟨rfl, hJ3, hk3⟩ | ⟨rfl, hJx3⟩)
      · have HX := Lib.hid (hnx.out.trans ((Keep2.of_below HBW.out hbw hBw).trans hk3))
        have HJ3 := Lib.hid (range_snoc k ▸ hJ3)
        clear hJ3 hk3 hy
        gi_wp2
        go_roundw
        case rel => exact ⟨k + 1, by omega, by go_num, HJ3, HX⟩
        case measure => simp [intOf]; omega
      · have HJ3 := Lib.hid (range_snoc k ▸ hJx3)
        clear hJx3 hy
        gi_wp2
        refine bodyPost_ret (results_none rfl _ _ _) rfl ?_
        exact ⟨⟨_, rfl⟩, .inr ⟨_, ⟨k + 1, by omega, rfl⟩, HJ3.out⟩⟩
    · obtain rfl : k = len := by omega
      gi_wp2
      go_end0
      exact ⟨⟨_, rfl⟩, .inl ⟨_, rfl, hJs.out⟩⟩
/-- The iterator that edges hands back: the segments from point 0, 1, .. on; it reads the points behind each round, so the rounds must leave what lies below n0. -/
theorem edges_seq (n Bs b len cap : Nat) (zs : List P2) (w : World) (hz : len = zs.length) (h1 : 1 ≤ len) (hl : len ≤ 1000) (hB : Bs < w.heap.size) (hBs : w.cell? ⟨Bs, 0, none⟩ = some (.slice (some ⟨b, 0, none⟩) len cap)) (hp : PtsAt w b zs) :
    SeqStopsK Fence.wide n Tryd.prog 154 #[.pointer (some ⟨Bs, 0, none⟩)] (fun k => #[segV zs k]) (Keep2 b Bs) (fun xs => xs = List.range len) (fun pre => ∃ k, k ≤ len ∧ pre = List.range k) len w := fun l J Jx W hW hJ _ hY h0 =>
  edges1_in n l Bs b len cap zs hz h1 hl J Jx hY W (Nat.lt_of_lt_of_le hB hW.size) hJ ((hW.cell (p := ⟨Bs, 0, none⟩) hB).trans hBs) (hp.below hW hp.1) h0
/-- A loop over the edges of a polygon. I: what holds between two rounds; Ix: what holds where a round has left; Ax: what holds behind the assignment of the loop's variable. -/
theorem wp_edges {g : Operand} {t : Tmp} {assign body : Code} {Q : Exit → Act → World → Prop} {a : Act} {w : World} (Bs b len cap : Nat) (zs : List P2) (hz : len = zs.length) (h1 : 1 ≤ len) (hl : len ≤ 1000)
    (hg : a.eval g = .func (.func 154) #[] #[.pointer (some ⟨Bs, 0, none⟩)]) (hB : Bs < w.heap.size) (hBs : w.cell? ⟨Bs, 0, none⟩ = some (.slice (some ⟨b, 0, none⟩) len cap)) (hp : PtsAt w b zs)
    (I : List Nat → World → Prop) (Ix : Code → List Nat → World → Prop) (hI : OwnFrom w.heap.size I) (hIx : ∀ c, OwnFrom w.heap.size (Ix c)) (h0 : I [] w) (Ax : Nat → Act → World → Prop) (hAx : ∀ x a', OwnFrom w.heap.size (fun (_ : Unit) W => Ax x a' W))
    (hassign : ∀ (l : Nat) (pre : List Nat) (x : Nat) (W : World) (K : Act → World → Prop), w.heap.size ≤ W.heap.size → I pre W → (∀ a' W', KeepsFrom w.heap.size W W' → Keep2 b Bs W W' → I pre W' → Ax x a' W' → K a' W') →
      assign.wpIn (Fence.wide.inRound l) 0 Tryd.prog (Exit.then K (fun _ _ _ => False)) { tmps := a.tmps.setIfInBounds t (segV zs x), defers := [] } W)
    (hbody : ∀ (l : Nat) (pre : List Nat) (x : Nat) (a' : Act) (W : World), w.heap.size ≤ W.heap.size → I pre W → Ax x a' W → pre.length < len → body.wpIn (Fence.wide.inRound l) 0 Tryd.prog (ownPostG w.heap.size (Keep2 b Bs) I Ix (pre ++ [x]) W) a' W)
    (hdone : ∀ (D : Nat) (W : World), w.heap.size ≤ D → I (List.range len) W → W.heap[D]? = some (.deferred (some [])) → Q .normal { a with defers := { target := .collected D, args := #[] } :: a.defers } W)
    (hstop : ∀ (D : Nat) (c : Code) (k : Nat) (W : World), w.heap.size ≤ D → k ≤ len → Ix c (List.range k) W → W.heap[D]? = some (.deferred (some [])) → c.wpIn Fence.wide 2 Tryd.prog Q { a with defers := { target := .collected D, args := #[] } :: a.defers } W) :
    (Code.rangeFunc g #[t] assign body).wpIn Fence.wide 2 Tryd.prog Q a w := by
  refine wpIn_rangeFunc_ownH rfl (by omega) (gf := 154) (lb := #[.pointer (some ⟨Bs, 0, none⟩)]) hg trivial (enters_of Tryd.func154 (by kernel_rfl) rfl) (edges_seq _ Bs b len cap zs w hz h1 hl hB hBs hp) (fun h k => h.trans k)
    (fun W l o o' hl _ _ _ => Keep2.putObj hp.1 hB W l o' hl) (Below.refl _ _) (fun _ => rfl) (fun pre W => w.heap.size ≤ W.heap.size ∧ I pre W) (fun c pre W => w.heap.size ≤ W.heap.size ∧ Ix c pre W) ?_ ?_ ⟨Nat.le_refl _, h0⟩ Ax hAx ?_ ?_ ?_ ?_
  · exact fun s X Y row h hg hr => ⟨Nat.le_trans h.1 hg.size, hI s X Y row h.2 hg hr⟩
  · exact fun c s X Y row h hg hr => ⟨Nat.le_trans h.1 hg.size, hIx c s X Y row h.2 hg hr⟩
  · intro l pre x W K hs hK
    have e : (#[t].zip #[segV zs x]).foldl (fun (t : Array Value) (x : Tmp × Value) => t.setIfInBounds x.1 x.2) a.tmps = a.tmps.setIfInBounds t (segV zs x) := by simp
    show Code.wpIn (Fence.wide.inRound l) 0 _ _ _ { tmps := (#[t].zip #[segV zs x]).foldl (fun (t : Array Value) (x : Tmp × Value) => t.setIfInBounds x.1 x.2) a.tmps, defers := [] } W
    rw [e]
    exact hassign l pre x W K hs.1 hs.2 (fun a' W' k1 k2 hi hx => hK a' W' k1 k2 ⟨Nat.le_trans hs.1 k1.size, hi⟩ hx)
  · intro l pre x a' W _ _ hs hx hlen
    refine Code.wpIn_mono ?_ (hbody l pre x a' W hs.1 hs.2 hx hlen)
    intro e a1 W1 h
    cases e with
    | normal => exact ⟨h.1, h.2.1, Nat.le_trans hs.1 h.1.size, h.2.2⟩
    | ret => exact ⟨h.1, Nat.le_trans hs.1 h.1.size, h.2⟩
    | exit id => exact ⟨h.1, Nat.le_trans hs.1 h.1.size, h.2⟩
    | goto t => exact ⟨h.1, Nat.le_trans hs.1 h.1.size, h.2⟩
    | panic c => exact h
    | outgrown => exact h
  · rintro D xs W hD rfl hs hd
    exact hdone D W hD hs.2 hd
  · rintro D c pre W hD ⟨k, hk, rfl⟩ hs hd
    exact hstop D c k W hD hk hs.2 hd
end Go.Proofs.YtmfchcaidfloaaaDoor
