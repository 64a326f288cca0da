/- Lists of points that are equal, and those that are equal up to where they begin; of spec. -/
import Derived.Test.YtcbbhpabiijpoaaOwnP
import Derived.Test.YtcbbhpabiijpoaaK3
namespace Go.Proofs.Ytcbbhpabiijpoaa
open Go.ChangeShapes Go.WideShapes Go.ChangeAt Go.RowKit
set_option linter.unusedVariables false

theorem take_eq_succ {a b : List P2} {k : Nat} (hk : k < a.length) (hb : k < b.length) (h : a.take k = b.take k) (e : a.getD k (0, 0) = b.getD k (0, 0)) : a.take (k + 1) = b.take (k + 1) := by
  rw [List.take_succ_eq_append_getElem hk, List.take_succ_eq_append_getElem hb, h]
  congr 2
  simpa [List.getD_eq_getElem?_getD, hk, hb] using e
theorem take_eq_all {a b : List P2} {k : Nat} (ha : a.length = k) (hb : b.length = k) (h : a.take k = b.take k) : a = b := by
  rwa [List.take_of_length_le (by omega), List.take_of_length_le (by omega)] at h
set_option maxRecDepth 100000 in
set_option maxHeartbeats 1000000 in
theorem equal_spec (ao bo : Option Addr) (n m c d : Nat) (za zb : List P2) (w : World) (hn : n ≤ 1048576) (hm : m ≤ 1048576) (ha : PV w ao n za) (hb : PV w bo m zb) :
    Calls Try.prog 112 #[.slice ao n c, .slice bo m d] w fun e w' => e = .returned (.bool (decide (za = zb))) ∧ Below w.heap.size w w' := by
  have hza := ha.1
  have hzb := hb.1
  by_cases hnm : n = m
  · subst hnm
    have HA := Lib.hid ha
    have HB := Lib.hid hb
    have HZA := Lib.hid hza
    have HZB := Lib.hid hzb
    clear ha hb hza hzb
    go_enter Try.func112, Try.ntmps112
    go_wp2
    go_loopw [5] (fun iv wr => ∃ k : Nat, k ≤ n ∧ iv = .int .i64 k ∧ Hid (za.take k = zb.take k) ∧ Hid (Below w.heap.size w wr)) (fun i _ => n - (intOf i).toNat)
    case atStart => exact ⟨0, by omega, rfl, Lib.hid rfl, Lib.hid (Below.refl _ _)⟩
    case round =>
      obtain ⟨k, hk, rfl, he, hw⟩ := hrel
      by_cases hlt : k < n
      · have hka : k < za.length := by have := HZA.out; omega
        have hkb : k < zb.length := by have := HZB.out; omega
        obtain ⟨a, rfl, hpa⟩ := (HA.out.below hw.out).at (by omega)
        obtain ⟨b, rfl, hpb⟩ := (HB.out.below hw.out).at (by omega)
        have haw := hpa.1
        have hbw := hpb.1
        obtain ⟨x, y, e, a0, a1⟩ := hpa.pt hka
        obtain ⟨u, v, e', b0, b1⟩ := hpb.pt hkb
        clear hpa hpb
        have E := Lib.hid e
        have E' := Lib.hid e'
        clear e e'
        go_wp2
        refine wp_region_below (by kernel_rfl) (by kernel_rfl) ?_
        repeat (first | (refine wq_skip ?_ ?_; (focus (go_simp; done)); (try simp only [Act.put, List.setIfInBounds_toArray, List.set_cons_zero, List.set_cons_succ])) | (refine wq_val ?_ ?_; (focus (go_simp; done)); apply Exists.intro; refine ⟨fun w1 hw1 => ?_, ?_⟩; (obtain ⟨hc, hf⟩ := bcell hw1; clear hw1; go_simp; (first | done | with_reducible rfl | exact eql2 _ _ _ | exact neq2 _ _ _)); (try simp only [Act.put, List.setIfInBounds_toArray, List.set_cons_zero, List.set_cons_succ])))
        refine wq_nil ?_
        intro w1 hb1
        have HB1 := Lib.hid hb1
        clear hb1
        by_cases hxy : x = u ∧ y = v
        · obtain ⟨rfl, rfl⟩ := hxy
          go_wp2
          go_roundw
          case rel => exact ⟨k + 1, by omega, by go_num, Lib.hid (take_eq_succ hka hkb he.out (E.out.trans E'.out.symm)), Lib.hid (bseq hw.out HB1.out)⟩
          case measure => simp [intOf]; omega
        · have hne : decide (za = zb) = false := by simp; intro h; subst h; have := E.out.symm.trans E'.out; simp at this; exact hxy this
          have HNE := Lib.hid hne
          clear hne
          have hd : (!(decide (x = u) && decide (y = v))) = true := by by_cases h1 : x = u <;> by_cases h2 : y = v <;> simp_all
          clear hxy
          generalize (!(decide (x = u) && decide (y = v))) = tt at *
          subst hd
          go_wp2
          go_ret
          exact ⟨ret_bool' HNE.out.symm, bseq hw.out HB1.out⟩
      · go_wp2
        go_ret
        exact ⟨ret_bool' (by simp; exact take_eq_all HZA.out.symm HZB.out.symm (by rw [← show k = n by omega]; exact he.out)), hw.out⟩
  · clear ha hb
    have hne : decide (za = zb) = false := by simp; intro h; subst h; omega
    rw [hne]
    clear hne hza hzb
    go_enter Try.func112, Try.ntmps112
    go_wp2
    go_ret
    exact ⟨rfl, Below.refl _ _⟩
/-- Two lists of points are equal up to where they begin, from the number k on of the second one. -/
def aroundB (a b : List P2) : Bool := (List.range b.length).any fun k => decide (a = rotL b k)
theorem any_range_snoc (f : Nat → Bool) (k : Nat) : (List.range (k + 1)).any f = ((List.range k).any f || f k) := by simp [List.range_succ]
theorem any_range_mono {f : Nat → Bool} {k n : Nat} (h : k < n) (hf : f k = true) : (List.range n).any f = true := List.any_eq_true.2 ⟨k, List.mem_range.2 h, hf⟩
set_option maxRecDepth 100000 in
set_option maxHeartbeats 1000000 in
theorem around_spec (ao : Option Addr) (b n m c d : Nat) (za zb : List P2) (w : World) (hn : n ≤ 1048576) (hm : m ≤ 1000) (hmd : m ≤ d) (ha : PV w ao n za) (hb : PV w (some ⟨b, 0, none⟩) m zb) :
    Calls Try.prog 77 #[.slice ao n c, .slice (some ⟨b, 0, none⟩) m d] w fun e w' => e = .returned (.bool (aroundB za zb)) ∧ Below w.heap.size w w' := by
  have hzb := hb.1
  have HA := Lib.hid ha
  have HB := Lib.hid hb
  have HZB := Lib.hid hzb
  clear ha hb hzb
  go_enter Try.func77, Try.ntmps77
  go_wp2
  go_loopw [5] (fun iv wr => ∃ k : Nat, k ≤ m ∧ iv = .int .i64 k ∧ Hid ((List.range k).any (fun k => decide (za = rotL zb k)) = false) ∧ Hid (Below w.heap.size w wr)) (fun i _ => m - (intOf i).toNat)
  case atStart => exact ⟨0, by omega, rfl, Lib.hid rfl, Lib.hid (Below.refl _ _)⟩
  case round =>
    obtain ⟨k, hk, rfl, he, hw⟩ := hrel
    by_cases hlt : k < m
    · obtain ⟨b', hbe, hpb⟩ := (HB.out.below hw.out).at (by omega)
      obtain rfl : b = b' := by simpa using hbe
      clear hbe
      have HPB := Lib.hid hpb
      clear hpb
      go_wp2_with fail
      refine (from_any b m d k zb _ HZB.out hm hlt hmd HPB.out).mono ?_
      rintro e w1 ⟨v, rfl, hv⟩
      obtain ⟨vo, vc, rfl, pv⟩ := hv.pv
      have hlen := rotL_len zb k (by have := HZB.out; omega)
      have HW1 := Lib.hid (bseq hw.out hv.2)
      clear hv
      have PV := Lib.hid pv
      have HLEN := Lib.hid hlen
      clear pv hlen
      go_wp2_with fail
      refine (equal_spec ao vo n _ c vc za (rotL zb k) _ hn (by have := HZB.out; have := HLEN.out; omega) (HA.out.below HW1.out) PV.out).mono ?_
      rintro e w2 ⟨rfl, h2⟩
      have HW2 := Lib.hid (bseq HW1.out h2)
      clear h2
      cases hd : decide (za = rotL zb k)
      · go_wp2
        go_roundw
        case rel => exact ⟨k + 1, by omega, by go_num, Lib.hid (by rw [any_range_snoc, he.out, hd]; rfl), Lib.hid HW2.out⟩
        case measure => simp [intOf]; omega
      · go_wp2
        go_ret
        exact ⟨ret_bool' (any_range_mono (by have := HZB.out; omega) hd).symm, HW2.out⟩
    · go_wp2
      go_ret
      exact ⟨ret_bool' (by rw [aroundB, ← HZB.out, ← show k = m by omega]; exact he.out.symm), hw.out⟩
end Go.Proofs.Ytcbbhpabiijpoaa
