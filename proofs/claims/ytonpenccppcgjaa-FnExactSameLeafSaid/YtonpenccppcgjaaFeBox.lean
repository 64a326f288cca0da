/- Are two slices of the struct Box equal: slices.Equal. -/
import Derived.Test.YtonpenccppcgjaaTyBox
import Derived.Test.YtonpenccppcgjaaK8
namespace Go.Proofs.Ytonpenccppcgjaa
open Seq2 Go.ChangeShapes Go.WideShapes Go.ChangeAt Go.RowKit
set_option linter.unusedVariables false
set_option linter.unusedSimpArgs false

instance : DecidableEq Bx := by unfold Bx; infer_instance
theorem take_eq_succBx {a b : List Bx} {k : Nat} (ha : k < a.length) (hb : k < b.length) (h : a.take k = b.take k) (e : a.getD k bx0 = b.getD k bx0) : a.take (k + 1) = b.take (k + 1) := by
  rw [List.take_succ_eq_append_getElem ha, List.take_succ_eq_append_getElem hb, h]
  simp [List.getD_eq_getElem?_getD, ha, hb] at e
  rw [e]
theorem take_eq_allBx {a b : List Bx} {n : Nat} (ha : a.length = n) (hb : b.length = n) (h : a.take n = b.take n) : a = b := by
  rw [List.take_of_length_le (by omega), List.take_of_length_le (by omega)] at h; exact h
set_option maxRecDepth 100000 in
set_option maxHeartbeats 4000000 in
theorem equal_Bxs (ao bo : Option Addr) (n m c d : Nat) (za zb : List Bx) (w : World) (hn : n ≤ 1048576) (hm : m ≤ 1048576) (ha : BxV w ao n za) (hb : BxV w bo m zb) :
    Calls Try.prog 22 #[.slice ao n c, .slice bo m d] w fun e w' => e = .returned (.bool (decide (za = zb))) ∧ Below w.heap.size w w' := by
  have hza := ha.1
  have hzb := hb.1
  by_cases hnm : n = m
  · subst hnm
    have HA := Lib.hid ha
    have HB := Lib.hid hb
    have HZA := Lib.hid hza
    have HZB := Lib.hid hzb
    clear ha hb hza hzb
    go_enter Try.func22, Try.ntmps22
    go_wp2
    go_loopw [13, 5] (fun iv jv wr => ∃ k : Nat, k ≤ n ∧ iv = .int .i64 k ∧ Hid (za.take k = zb.take k) ∧ Hid (Below w.heap.size w wr)) (fun i _ _ => n - (intOf i).toNat)
    case atStart => exact ⟨0, by omega, rfl, Lib.hid rfl, Lib.hid (Below.refl _ _)⟩
    case round =>
      obtain ⟨k, hk, rfl, he, hw⟩ := hrel
      by_cases hlt : k < n
      · have hka : k < za.length := by have := HZA.out; omega
        have hkb : k < zb.length := by have := HZB.out; omega
        obtain ⟨a, rfl, hpa⟩ := (HA.out.below hw.out).2.resolve_left (by omega)
        obtain ⟨b, rfl, hpb⟩ := (HB.out.below hw.out).2.resolve_left (by omega)
        obtain ⟨haw, aa0, aa1, aa2, aa3⟩ := hpa k hlt
        obtain ⟨hbw, bb0, bb1, bb2, bb3⟩ := hpb k hlt
        clear hpa hpb
        obtain ⟨z, hz⟩ : ∃ z, za.getD k bx0 = z := ⟨_, rfl⟩
        obtain ⟨z', hz'⟩ : ∃ z', zb.getD k bx0 = z' := ⟨_, rfl⟩
        rw [hz] at aa0 aa1 aa2 aa3
        rw [hz'] at bb0 bb1 bb2 bb3
        have HZ1 := Lib.hid hz
        have HZ2 := Lib.hid hz'
        clear hz hz'
        obtain ⟨x0, x1, x2, x3⟩ := z
        obtain ⟨y0, y1, y2, y3⟩ := z'
        simp only at aa0 aa1 aa2 aa3 bb0 bb1 bb2 bb3
        by_cases h0 : x0 = y0
        rotate_left
        · have HNE := Lib.hid (show decide (za = zb) = false by
            simp; intro h; subst h; have := HZ1.out.symm.trans HZ2.out; simp only [Prod.mk.injEq] at this; exact h0 this.1)
          have n1 : (x0 == y0) = false := by simpa using h0
          have n2 : decide (x0 = y0) = false := by simpa using h0
          go_wp2
          refine wp_region_below (by kernel_rfl) (by kernel_rfl) ?_
          repeat (first | (refine wq_skip ?_ ?_; (focus (go_simp; (first | done | (simp [undef]; done)))); (try simp only [Act.put, List.setIfInBounds_toArray, List.set_cons_zero, List.set_cons_succ])) | (refine wq_val ?_ ?_; (focus (go_simp; done)); apply Exists.intro; refine ⟨fun w1 hw1 => ?_, ?_⟩; (obtain ⟨hc, hf⟩ := bcell hw1; clear hw1; go_simp; (first | done | with_reducible rfl | (with_reducible exact eql2 _ _ _) | (with_reducible exact neq2 _ _ _))); (try simp only [Act.put, List.setIfInBounds_toArray, List.set_cons_zero, List.set_cons_succ])))
          refine wq_nil ?_
          intro w1 hb1
          have HB1 := Lib.hid hb1
          clear hb1
          go_wp2
          go_ret
          exact ⟨ret_bool' HNE.out.symm, bseq hw.out HB1.out⟩
        subst h0
        by_cases h1 : x1 = y1
        rotate_left
        · have HNE := Lib.hid (show decide (za = zb) = false by
            simp; intro h; subst h; have := HZ1.out.symm.trans HZ2.out; simp only [Prod.mk.injEq] at this; exact h1 this.2.1)
          have n1 : (x1 == y1) = false := by simpa using h1
          have n2 : decide (x1 = y1) = false := by simpa using h1
          go_wp2
          refine wp_region_below (by kernel_rfl) (by kernel_rfl) ?_
          repeat (first | (refine wq_skip ?_ ?_; (focus (go_simp; (first | done | (simp [undef]; done)))); (try simp only [Act.put, List.setIfInBounds_toArray, List.set_cons_zero, List.set_cons_succ])) | (refine wq_val ?_ ?_; (focus (go_simp; done)); apply Exists.intro; refine ⟨fun w1 hw1 => ?_, ?_⟩; (obtain ⟨hc, hf⟩ := bcell hw1; clear hw1; go_simp; (first | done | with_reducible rfl | (with_reducible exact eql2 _ _ _) | (with_reducible exact neq2 _ _ _))); (try simp only [Act.put, List.setIfInBounds_toArray, List.set_cons_zero, List.set_cons_succ])))
          refine wq_nil ?_
          intro w1 hb1
          have HB1 := Lib.hid hb1
          clear hb1
          go_wp2
          go_ret
          exact ⟨ret_bool' HNE.out.symm, bseq hw.out HB1.out⟩
        subst h1
        by_cases h2 : x2 = y2
        rotate_left
        · have HNE := Lib.hid (show decide (za = zb) = false by
            simp; intro h; subst h; have := HZ1.out.symm.trans HZ2.out; simp only [Prod.mk.injEq] at this; exact h2 this.2.2.1)
          have n1 : (x2 == y2) = false := by simpa using h2
          have n2 : decide (x2 = y2) = false := by simpa using h2
          go_wp2
          refine wp_region_below (by kernel_rfl) (by kernel_rfl) ?_
          repeat (first | (refine wq_skip ?_ ?_; (focus (go_simp; (first | done | (simp [undef]; done)))); (try simp only [Act.put, List.setIfInBounds_toArray, List.set_cons_zero, List.set_cons_succ])) | (refine wq_val ?_ ?_; (focus (go_simp; done)); apply Exists.intro; refine ⟨fun w1 hw1 => ?_, ?_⟩; (obtain ⟨hc, hf⟩ := bcell hw1; clear hw1; go_simp; (first | done | with_reducible rfl | (with_reducible exact eql2 _ _ _) | (with_reducible exact neq2 _ _ _))); (try simp only [Act.put, List.setIfInBounds_toArray, List.set_cons_zero, List.set_cons_succ])))
          refine wq_nil ?_
          intro w1 hb1
          have HB1 := Lib.hid hb1
          clear hb1
          go_wp2
          go_ret
          exact ⟨ret_bool' HNE.out.symm, bseq hw.out HB1.out⟩
        subst h2
        by_cases h3 : x3 = y3
        rotate_left
        · have HNE := Lib.hid (show decide (za = zb) = false by
            simp; intro h; subst h; have := HZ1.out.symm.trans HZ2.out; simp only [Prod.mk.injEq] at this; exact h3 this.2.2.2)
          have n1 : (x3 == y3) = false := by simpa using h3
          have n2 : decide (x3 = y3) = false := by simpa using h3
          go_wp2
          refine wp_region_below (by kernel_rfl) (by kernel_rfl) ?_
          repeat (first | (refine wq_skip ?_ ?_; (focus (go_simp; (first | done | (simp [undef]; done)))); (try simp only [Act.put, List.setIfInBounds_toArray, List.set_cons_zero, List.set_cons_succ])) | (refine wq_val ?_ ?_; (focus (go_simp; done)); apply Exists.intro; refine ⟨fun w1 hw1 => ?_, ?_⟩; (obtain ⟨hc, hf⟩ := bcell hw1; clear hw1; go_simp; (first | done | with_reducible rfl | (with_reducible exact eql2 _ _ _) | (with_reducible exact neq2 _ _ _))); (try simp only [Act.put, List.setIfInBounds_toArray, List.set_cons_zero, List.set_cons_succ])))
          refine wq_nil ?_
          intro w1 hb1
          have HB1 := Lib.hid hb1
          clear hb1
          go_wp2
          go_ret
          exact ⟨ret_bool' HNE.out.symm, bseq hw.out HB1.out⟩
        subst h3
        go_wp2
        refine wp_region_below (by kernel_rfl) (by kernel_rfl) ?_
        repeat (first | (refine wq_skip ?_ ?_; (focus (go_simp; (first | done | (simp [undef]; done)))); (try simp only [Act.put, List.setIfInBounds_toArray, List.set_cons_zero, List.set_cons_succ])) | (refine wq_val ?_ ?_; (focus (go_simp; done)); apply Exists.intro; refine ⟨fun w1 hw1 => ?_, ?_⟩; (obtain ⟨hc, hf⟩ := bcell hw1; clear hw1; go_simp; (first | done | with_reducible rfl | (with_reducible exact eql2 _ _ _) | (with_reducible exact neq2 _ _ _))); (try simp only [Act.put, List.setIfInBounds_toArray, List.set_cons_zero, List.set_cons_succ])))
        refine wq_nil ?_
        intro w1 hb1
        have HB1 := Lib.hid hb1
        clear hb1
        go_wp2
        go_roundw
        case rel => exact ⟨k + 1, by omega, by go_num, Lib.hid (take_eq_succBx hka hkb he.out (HZ1.out.trans HZ2.out.symm)), Lib.hid (bseq hw.out HB1.out)⟩
        case measure => simp [intOf]; omega
      · go_wp2
        go_ret
        exact ⟨ret_bool' (by simp; exact take_eq_allBx HZA.out.symm HZB.out.symm (by rw [← show k = n by omega]; exact he.out)), hw.out⟩
  · clear ha hb
    have hne : decide (za = zb) = false := by simp; intro h; subst h; omega
    rw [hne]
    clear hne hza hzb
    go_enter Try.func22, Try.ntmps22
    go_wp2
    go_ret
    exact ⟨rfl, Below.refl _ _⟩
end Go.Proofs.Ytonpenccppcgjaa
