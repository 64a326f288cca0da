/- isApart of impl, and with it: is a list of points a polygon. -/
import Derived.Test.YtjhmpmaademdcaaApart
namespace Go.Proofs.Ytjhmpmaademdcaa
open Go.ChangeShapes Go.WideShapes Go.ChangeAt Go.RowKit
set_option linter.unusedVariables false

theorem cells_any (zs : List P2) (i s m : Nat) (h3 : 3 ≤ zs.length) (hi : i < zs.length) (hs : s = min (i + 2) zs.length) (hm : m = if i = 0 then zs.length - 3 else zs.length - s) : allTo (cellOk zs i) zs.length = !anyTo (tcF zs i s) m := by
  unfold anyTo
  rw [Bool.not_not, Bool.eq_iff_iff, allTo_iff, allTo_iff]
  constructor
  · intro h j hj
    have hsj : s = i + 2 := by split at hm <;> omega
    have hk : s + j < zs.length := by split at hm <;> omega
    have h1 := h (s + j) hk
    unfold cellOk at h1
    rw [decide_eq_true (by omega), Bool.true_and] at h1
    have hne : (s + j + 1) % zs.length ≠ i := by
      by_cases he : s + j + 1 = zs.length
      · rw [he, Nat.mod_self]; split at hm <;> omega
      · rw [Nat.mod_eq_of_lt (by omega)]; omega
    rw [decide_eq_true hne, Bool.true_and] at h1
    exact h1
  · intro h k hk
    unfold cellOk
    by_cases hik : i + 2 ≤ k
    · by_cases hne : (k + 1) % zs.length = i
      · simp [hne]
      · have hsj : s = i + 2 := by omega
        have hkm : k - s < m := by
          by_cases he : k + 1 = zs.length
          · rw [he, Nat.mod_self] at hne; rw [if_neg (by omega)] at hm; omega
          · split at hm <;> omega
        have h1 := h (k - s) hkm
        unfold tcF at h1
        rw [show s + (k - s) = k by omega] at h1
        simp only [Bool.not_and, Bool.or_eq_true]
        right
        exact h1
    · simp [hik]
def apTo (zs : List P2) (i : Nat) : Bool := allTo (cellOk zs i) zs.length
theorem apB_bad {zs : List P2} {i : Nat} (hi : i < zs.length) (h : apTo zs i = false) : apB zs = false := allTo_bad hi h
theorem apB_end {zs : List P2} {k : Nat} (hk : zs.length ≤ k) (h : allTo (apTo zs) k = true) : apB zs = true := allTo_ok fun j hj => (allTo_iff _ _).1 h j (by omega)
set_option maxRecDepth 100000 in
set_option maxHeartbeats 4000000 in
theorem isApart_any (b len cap : Nat) (zs : List P2) (w : World) (hz : len = zs.length) (h3 : 3 ≤ len) (hl : len ≤ 24) (hv : allOk zs = true) (hp : PtsAt w b zs) :
    Calls Try.prog 138 #[.slice (some ⟨b, 0, none⟩) len cap] w fun e w' => e = .returned (.bool (apB zs)) ∧ Below w.heap.size w w' := by
  have HZ := Lib.hid hz
  have HP := Lib.hid hp
  have HV := Lib.hid hv
  clear hz hp hv
  go_enter Try.func138, Try.ntmps138
  go_wp2_with fail
  refine (edges_any _ _ _ _).mono ?_
  rintro e w1 ⟨B, rfl, hm⟩
  have HM := Lib.hid hm
  clear hm
  go_wp2_with fail
  refine (collect_any B b len cap zs _ HZ.out (by omega) hl HM.out.high (by simp [World.cell?, HM.out.here]) (HP.out.below HM.out.below HP.out.1)).mono ?_
  rintro e w2 ⟨v, rfl, hr, hb2⟩
  obtain ⟨g, cp, rfl, hg1, hg2, hsg⟩ := segsAt_of (by omega) hr
  have HB := Lib.hid (bseq HM.out.below hb2)
  have HSG := Lib.hid hsg
  clear hr hb2 hsg
  go_wp2
  go_loopw [12] (fun iv wr => ∃ k : Nat, k ≤ len ∧ iv = .int .i64 k ∧ Hid (allTo (apTo zs) k = true) ∧ Hid (Below w2.heap.size w2 wr)) (fun i _ => len - (intOf i).toNat)
  case atStart => exact ⟨0, by omega, rfl, Lib.hid rfl, Lib.hid (Below.refl _ _)⟩
  case round =>
    obtain ⟨k, hk, rfl, hi, hb⟩ := hrel
    by_cases hlt : k < len
    · have hgw : g < wr.heap.size := Nat.lt_of_lt_of_le HSG.out.1 hb.out.size
      obtain ⟨c0, c1, c2, c3⟩ := (HSG.out.below hb.out HSG.out.1).2 k hlt
      have HF := Lib.hid (apB_bad (zs := zs) (i := k) (by have := HZ.out; omega))
      by_cases hk0 : k = 0
      · subst hk0
        have hmin : min (2 : Int) (len : Int) = 2 := by omega
        have hmin0 : min ((0 : Int) + 2) (len : Int) = 2 := by omega
        have hcp : ¬ cp = 2 := by omega
        have hcp2 : ¬ 2 = cp := by omega
        have HA := Lib.hid (cells_any zs 0 2 (len - 3) (by have := HZ.out; omega) (by have := HZ.out; omega) (by have := HZ.out; omega) (by have := HZ.out; rw [if_pos rfl]; omega))
        have el : ((len - 2 : Nat) : Int) - 1 = ((len - 3 : Nat) : Int) := by omega
        have el2 : ((len : Int) - 2 - 1) = ((len - 3 : Nat) : Int) := by omega
        go_wp2_with fail
        refine (hasSeg_any 0 2 (len - 3) _ len g _ zs _ HV.out (by have := HZ.out; omega) (by omega) hl (Or.inr rfl) ((HSG.out.below hb.out HSG.out.1).below (one_alloc _) hgw)).mono ?_
        rintro e w3 ⟨rfl, hb3⟩
        have HB3 := Lib.hid (bseq (one_alloc _) hb3)
        clear hb3
        cases hm : anyTo (tcF zs 0 2) (len - 3)
        · rw [hm] at HA
          clear hm
          go_wp2
          go_roundw
          case rel => exact ⟨0 + 1, by omega, by go_num, Lib.hid (allTo_succ hi.out HA.out), Lib.hid (bseq hb.out HB3.out)⟩
          case measure => simp [intOf]; omega
        · rw [hm] at HA
          clear hm
          go_wp2
          go_ret
          exact ⟨ret_bool (HF.out HA.out).symm, HB.out.trans ((bseq hb.out HB3.out).mono HB.out.size)⟩
      · have hs1 : min ((k : Int) + 2) (len : Int) = ((min (k + 2) len : Nat) : Int) := by omega
        obtain ⟨s, hs⟩ : ∃ s, min (k + 2) len = s := ⟨_, rfl⟩
        rw [hs] at hs1
        have hsl : s ≤ len := by omega
        have hk00 : ((k : Int) == 0) = false := by simp; omega
        have HA := Lib.hid (cells_any zs k s (len - s) (by have := HZ.out; omega) (by have := HZ.out; omega) (by have := HZ.out; omega) (by have := HZ.out; rw [if_neg hk0]; omega))
        clear hs
        by_cases hcp : s = cp
        · have hls : len - s = 0 := by omega
          subst hcp
          go_wp2_with fail
          refine (hasSeg_any k s _ _ len g _ zs _ HV.out (by have := HZ.out; omega) (by omega) hl (Or.inl (by omega)) ((HSG.out.below hb.out HSG.out.1).below (one_alloc _) hgw)).mono ?_
          rintro e w3 ⟨rfl, hb3⟩
          have HB3 := Lib.hid (bseq (one_alloc _) hb3)
          clear hb3
          rw [hls] at HA
          rw [show anyTo (tcF zs k s) 0 = false from rfl]
          go_wp2
          go_roundw
          case rel => exact ⟨k + 1, by omega, by go_num, Lib.hid (allTo_succ hi.out HA.out), Lib.hid (bseq hb.out HB3.out)⟩
          case measure => simp [intOf]; omega
        · have hcp' : ¬ cp = s := fun h => hcp h.symm
          go_wp2_with fail
          refine (hasSeg_any k s (len - s) _ len g _ zs _ HV.out (by have := HZ.out; omega) (by omega) hl (Or.inr rfl) ((HSG.out.below hb.out HSG.out.1).below (one_alloc _) hgw)).mono ?_
          rintro e w3 ⟨rfl, hb3⟩
          have HB3 := Lib.hid (bseq (one_alloc _) hb3)
          clear hb3
          cases hm : anyTo (tcF zs k s) (len - s)
          · rw [hm] at HA
            clear hm
            go_wp2
            go_roundw
            case rel => exact ⟨k + 1, by omega, by go_num, Lib.hid (allTo_succ hi.out HA.out), Lib.hid (bseq hb.out HB3.out)⟩
            case measure => simp [intOf]; omega
          · rw [hm] at HA
            clear hm
            go_wp2
            go_ret
            exact ⟨ret_bool (HF.out HA.out).symm, HB.out.trans ((bseq hb.out HB3.out).mono HB.out.size)⟩
    · go_wp2
      go_ret
      exact ⟨ret_bool (apB_end (by have := HZ.out; omega) hi.out).symm, HB.out.trans (hb.out.mono HB.out.size)⟩
end Go.Proofs.Ytjhmpmaademdcaa
