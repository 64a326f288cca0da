/- Are two drawings equal: spec and impl. -/
import Derived.Test.YtkmmhkhbpfkmcaaDrw13
import Derived.Test.YtkmmhkhbpfkmcaaK8
namespace Go.Proofs.Ytkmmhkhbpfkmcaa
open Seq2 Go.ChangeShapes Go.WideShapes Go.ChangeAt Go.RowKit
set_option linter.unusedVariables false
set_option linter.unusedSimpArgs false

theorem take_eq_succI {a b : List Int} {k : Nat} (ha : k < a.length) (hb : k < b.length) (h : a.take k = b.take k) (e : a.getD k 0 = b.getD k 0) : a.take (k + 1) = b.take (k + 1) := by
  rw [List.take_succ_eq_append_getElem ha, List.take_succ_eq_append_getElem hb, h]
  simp [List.getD_eq_getElem?_getD, ha, hb] at e
  rw [e]
theorem take_eq_allI {a b : List Int} {n : Nat} (ha : a.length = n) (hb : b.length = n) (h : a.take n = b.take n) : a = b := by
  rw [List.take_of_length_le (by omega), List.take_of_length_le (by omega)] at h; exact h
set_option maxRecDepth 100000 in
set_option maxHeartbeats 1000000 in
theorem same00_any (ao bo : Option Addr) (n m c d : Nat) (za zb : List Int) (w : World) (hn : n ≤ 1048576) (hm : m ≤ 1048576) (ha : IV w ao n za) (hb : IV w bo m zb) :
    Calls Try.prog 33 #[.slice ao n c, .slice bo m d] w fun e w' => e = .returned (.bool (decide (za = zb))) ∧ Below w.heap.size w w' := by
  have hza := ha.1
  have hzb := hb.1
  by_cases hnm : n = m
  · subst hnm
    have HA := Lib.hid ha
    have HB := Lib.hid hb
    have HZA := Lib.hid hza
    have HZB := Lib.hid hzb
    clear ha hb hza hzb
    go_enter Try.func33, Try.ntmps33
    go_wp2
    go_loopw [5] (fun iv wr => ∃ k : Nat, k ≤ n ∧ iv = .int .i64 k ∧ Hid (za.take k = zb.take k) ∧ Hid (Below w.heap.size w wr)) (fun i _ => n - (intOf i).toNat)
    case atStart => exact ⟨0, by omega, rfl, Lib.hid rfl, Lib.hid (Below.refl _ _)⟩
    case round =>
      obtain ⟨k, hk, rfl, he, hw⟩ := hrel
      by_cases hlt : k < n
      · have hka : k < za.length := by have := HZA.out; omega
        have hkb : k < zb.length := by have := HZB.out; omega
        obtain ⟨a, rfl, haw, hca⟩ := (HA.out.below hw.out).2.resolve_left (by omega)
        obtain ⟨b, rfl, hbw, hcb⟩ := (HB.out.below hw.out).2.resolve_left (by omega)
        have a0 := hca k hlt
        have b0 := hcb k hlt
        clear hca hcb
        obtain ⟨x, e⟩ : ∃ x, za.getD k 0 = x := ⟨_, rfl⟩
        obtain ⟨u, e'⟩ : ∃ u, zb.getD k 0 = u := ⟨_, rfl⟩
        rw [e] at a0
        rw [e'] at b0
        have E := Lib.hid e
        have E' := Lib.hid e'
        clear e e'
        by_cases hxy : x = u
        · subst hxy
          go_wp2
          refine wp_region_below (by kernel_rfl) (by kernel_rfl) ?_
          repeat (first | (refine wq_skip ?_ ?_; (focus (go_simp; (first | done | (simp [undef]; done)))); (try simp only [Act.put, List.setIfInBounds_toArray, List.set_cons_zero, List.set_cons_succ])) | (refine wq_val ?_ ?_; (focus (go_simp; done)); apply Exists.intro; refine ⟨fun w1 hw1 => ?_, ?_⟩; (obtain ⟨hc, hf⟩ := bcell hw1; clear hw1; go_simp; (first | done | with_reducible rfl | (with_reducible exact eql2 _ _ _) | (with_reducible exact neq2 _ _ _))); (try simp only [Act.put, List.setIfInBounds_toArray, List.set_cons_zero, List.set_cons_succ])))
          refine wq_nil ?_
          intro w1 hb1
          have HB1 := Lib.hid hb1
          clear hb1
          go_wp2
          go_roundw
          case rel => exact ⟨k + 1, by omega, by go_num, Lib.hid (take_eq_succI hka hkb he.out (E.out.trans E'.out.symm)), Lib.hid (bseq hw.out HB1.out)⟩
          case measure => simp [intOf]; omega
        · have hne : decide (za = zb) = false := by simp; intro h; subst h; exact hxy (E.out.symm.trans E'.out)
          have HNE := Lib.hid hne
          clear hne
          have hd : (x != u) = true := by simpa using hxy
          go_wp2
          refine wp_region_below (by kernel_rfl) (by kernel_rfl) ?_
          repeat (first | (refine wq_skip ?_ ?_; (focus (go_simp; (first | done | (simp [undef]; done)))); (try simp only [Act.put, List.setIfInBounds_toArray, List.set_cons_zero, List.set_cons_succ])) | (refine wq_val ?_ ?_; (focus (go_simp; done)); apply Exists.intro; refine ⟨fun w1 hw1 => ?_, ?_⟩; (obtain ⟨hc, hf⟩ := bcell hw1; clear hw1; go_simp; (first | done | with_reducible rfl | (with_reducible exact eql2 _ _ _) | (with_reducible exact neq2 _ _ _))); (try simp only [Act.put, List.setIfInBounds_toArray, List.set_cons_zero, List.set_cons_succ])))
          refine wq_nil ?_
          intro w1 hb1
          have HB1 := Lib.hid hb1
          clear hb1
          go_wp2
          go_ret
          exact ⟨ret_bool' HNE.out.symm, bseq hw.out HB1.out⟩
      · go_wp2
        go_ret
        exact ⟨ret_bool' (by simp; exact take_eq_allI HZA.out.symm HZB.out.symm (by rw [← show k = n by omega]; exact he.out)), hw.out⟩
  · clear ha hb
    have hne : decide (za = zb) = false := by simp; intro h; subst h; omega
    rw [hne]
    clear hne hza hzb
    go_enter Try.func33, Try.ntmps33
    go_wp2
    go_ret
    exact ⟨rfl, Below.refl _ _⟩
set_option maxRecDepth 100000 in
set_option maxHeartbeats 1000000 in
theorem equalI_any (ao bo : Option Addr) (n m c d : Nat) (za zb : List Int) (w : World) (hn : n ≤ 1048576) (hm : m ≤ 1048576) (ha : IV w ao n za) (hb : IV w bo m zb) :
    Calls Try.prog 36 #[.slice ao n c, .slice bo m d] w fun e w' => e = .returned (.bool (decide (za = zb))) ∧ Below w.heap.size w w' := by
  have hza := ha.1
  have hzb := hb.1
  by_cases hnm : n = m
  · subst hnm
    have HA := Lib.hid ha
    have HB := Lib.hid hb
    have HZA := Lib.hid hza
    have HZB := Lib.hid hzb
    clear ha hb hza hzb
    go_enter Try.func36, Try.ntmps36
    go_wp2
    go_loopw [13, 5] (fun iv jv wr => ∃ k : Nat, k ≤ n ∧ iv = .int .i64 k ∧ Hid (za.take k = zb.take k) ∧ Hid (Below w.heap.size w wr)) (fun i _ _ => n - (intOf i).toNat)
    case atStart => exact ⟨0, by omega, rfl, Lib.hid rfl, Lib.hid (Below.refl _ _)⟩
    case round =>
      obtain ⟨k, hk, rfl, he, hw⟩ := hrel
      by_cases hlt : k < n
      · have hka : k < za.length := by have := HZA.out; omega
        have hkb : k < zb.length := by have := HZB.out; omega
        obtain ⟨a, rfl, haw, hca⟩ := (HA.out.below hw.out).2.resolve_left (by omega)
        obtain ⟨b, rfl, hbw, hcb⟩ := (HB.out.below hw.out).2.resolve_left (by omega)
        have a0 := hca k hlt
        have b0 := hcb k hlt
        clear hca hcb
        obtain ⟨x, e⟩ : ∃ x, za.getD k 0 = x := ⟨_, rfl⟩
        obtain ⟨u, e'⟩ : ∃ u, zb.getD k 0 = u := ⟨_, rfl⟩
        rw [e] at a0
        rw [e'] at b0
        have E := Lib.hid e
        have E' := Lib.hid e'
        clear e e'
        by_cases hxy : x = u
        · subst hxy
          go_wp2
          refine wp_region_below (by kernel_rfl) (by kernel_rfl) ?_
          repeat (first | (refine wq_skip ?_ ?_; (focus (go_simp; (first | done | (simp [undef]; done)))); (try simp only [Act.put, List.setIfInBounds_toArray, List.set_cons_zero, List.set_cons_succ])) | (refine wq_val ?_ ?_; (focus (go_simp; done)); apply Exists.intro; refine ⟨fun w1 hw1 => ?_, ?_⟩; (obtain ⟨hc, hf⟩ := bcell hw1; clear hw1; go_simp; (first | done | with_reducible rfl | (with_reducible exact eql2 _ _ _) | (with_reducible exact neq2 _ _ _))); (try simp only [Act.put, List.setIfInBounds_toArray, List.set_cons_zero, List.set_cons_succ])))
          refine wq_nil ?_
          intro w1 hb1
          have HB1 := Lib.hid hb1
          clear hb1
          go_wp2
          go_roundw
          case rel => exact ⟨k + 1, by omega, by go_num, Lib.hid (take_eq_succI hka hkb he.out (E.out.trans E'.out.symm)), Lib.hid (bseq hw.out HB1.out)⟩
          case measure => simp [intOf]; omega
        · have hne : decide (za = zb) = false := by simp; intro h; subst h; exact hxy (E.out.symm.trans E'.out)
          have HNE := Lib.hid hne
          clear hne
          have hd : (x != u) = true := by simpa using hxy
          go_wp2
          refine wp_region_below (by kernel_rfl) (by kernel_rfl) ?_
          repeat (first | (refine wq_skip ?_ ?_; (focus (go_simp; (first | done | (simp [undef]; done)))); (try simp only [Act.put, List.setIfInBounds_toArray, List.set_cons_zero, List.set_cons_succ])) | (refine wq_val ?_ ?_; (focus (go_simp; done)); apply Exists.intro; refine ⟨fun w1 hw1 => ?_, ?_⟩; (obtain ⟨hc, hf⟩ := bcell hw1; clear hw1; go_simp; (first | done | with_reducible rfl | (with_reducible exact eql2 _ _ _) | (with_reducible exact neq2 _ _ _))); (try simp only [Act.put, List.setIfInBounds_toArray, List.set_cons_zero, List.set_cons_succ])))
          refine wq_nil ?_
          intro w1 hb1
          have HB1 := Lib.hid hb1
          clear hb1
          go_wp2
          go_ret
          exact ⟨ret_bool' HNE.out.symm, bseq hw.out HB1.out⟩
      · go_wp2
        go_ret
        exact ⟨ret_bool' (by simp; exact take_eq_allI HZA.out.symm HZB.out.symm (by rw [← show k = n by omega]; exact he.out)), hw.out⟩
  · clear ha hb
    have hne : decide (za = zb) = false := by simp; intro h; subst h; omega
    rw [hne]
    clear hne hza hzb
    go_enter Try.func36, Try.ntmps36
    go_wp2
    go_ret
    exact ⟨rfl, Below.refl _ _⟩
set_option maxRecDepth 100000 in
set_option maxHeartbeats 1000000 in
theorem equal_pts (ao bo : Option Addr) (n m c d : Nat) (za zb : List P2) (w : World) (hn : n ≤ 1048576) (hm : m ≤ 1048576) (ha : PV w ao n za) (hb : PV w bo m zb) :
    Calls Try.prog 25 #[.slice ao n c, .slice bo m d] w fun e w' => e = .returned (.bool (decide (za = zb))) ∧ Below w.heap.size w w' := by
  have hza := ha.1
  have hzb := hb.1
  by_cases hnm : n = m
  · subst hnm
    have HA := Lib.hid ha
    have HB := Lib.hid hb
    have HZA := Lib.hid hza
    have HZB := Lib.hid hzb
    clear ha hb hza hzb
    go_enter Try.func25, Try.ntmps25
    go_wp2
    go_loopw [13, 5] (fun iv jv wr => ∃ k : Nat, k ≤ n ∧ iv = .int .i64 k ∧ Hid (za.take k = zb.take k) ∧ Hid (Below w.heap.size w wr)) (fun i _ _ => n - (intOf i).toNat)
    case atStart => exact ⟨0, by omega, rfl, Lib.hid rfl, Lib.hid (Below.refl _ _)⟩
    case round =>
      obtain ⟨k, hk, rfl, he, hw⟩ := hrel
      by_cases hlt : k < n
      · have hka : k < za.length := by have := HZA.out; omega
        have hkb : k < zb.length := by have := HZB.out; omega
        obtain ⟨a, rfl, hpa⟩ := (HA.out.below hw.out).at (by omega)
        obtain ⟨b, rfl, hpb⟩ := (HB.out.below hw.out).at (by omega)
        have haw := hpa.1
        have hbw := hpb.1
        obtain ⟨x, y, e, a0, a1⟩ := hpa.pt hka
        obtain ⟨u, v, e', b0, b1⟩ := hpb.pt hkb
        clear hpa hpb
        have E := Lib.hid e
        have E' := Lib.hid e'
        clear e e'
        go_wp2
        refine wp_region_below (by kernel_rfl) (by kernel_rfl) ?_
        repeat (first | (refine wq_skip ?_ ?_; (focus (go_simp; (first | done | (simp [undef]; done)))); (try simp only [Act.put, List.setIfInBounds_toArray, List.set_cons_zero, List.set_cons_succ])) | (refine wq_val ?_ ?_; (focus (go_simp; done)); apply Exists.intro; refine ⟨fun w1 hw1 => ?_, ?_⟩; (obtain ⟨hc, hf⟩ := bcell hw1; clear hw1; go_simp; (first | done | with_reducible rfl | (with_reducible exact eql2 _ _ _) | (with_reducible exact neq2 _ _ _))); (try simp only [Act.put, List.setIfInBounds_toArray, List.set_cons_zero, List.set_cons_succ])))
        refine wq_nil ?_
        intro w1 hb1
        have HB1 := Lib.hid hb1
        clear hb1
        by_cases hxy : x = u ∧ y = v
        · obtain ⟨rfl, rfl⟩ := hxy
          go_wp2
          go_roundw
          case rel => exact ⟨k + 1, by omega, by go_num, Lib.hid (take_eq_succ hka hkb he.out (E.out.trans E'.out.symm)), Lib.hid (bseq hw.out HB1.out)⟩
          case measure => simp [intOf]; omega
        · have hne : decide (za = zb) = false := by simp; intro h; subst h; have := E.out.symm.trans E'.out; simp at this; exact hxy this
          have HNE := Lib.hid hne
          clear hne
          have hd : (!(decide (x = u) && decide (y = v))) = true := by by_cases h1 : x = u <;> by_cases h2 : y = v <;> simp_all
          clear hxy
          generalize (!(decide (x = u) && decide (y = v))) = tt at *
          subst hd
          go_wp2
          go_ret
          exact ⟨ret_bool' HNE.out.symm, bseq hw.out HB1.out⟩
      · go_wp2
        go_ret
        exact ⟨ret_bool' (by simp; exact take_eq_all HZA.out.symm HZB.out.symm (by rw [← show k = n by omega]; exact he.out)), hw.out⟩
  · clear ha hb
    have hne : decide (za = zb) = false := by simp; intro h; subst h; omega
    rw [hne]
    clear hne hza hzb
    go_enter Try.func25, Try.ntmps25
    go_wp2
    go_ret
    exact ⟨rfl, Below.refl _ _⟩
/-- Are two faces equal? -/
def fcE (f g : Fc) : Bool := (f.1.toList == g.1.toList) && decide (f.2 = g.2)
def fsE (fs gs : List Fc) : Bool := decide (fs.length = gs.length) && allTo (fun j => fcE (fs.getD j fc0) (gs.getD j fc0)) fs.length
def samD (A B : Drw) : Bool := decide (A.wd = B.wd) && decide (A.hg = B.hg) && decide (A.ps = B.ps) && fsE A.fs B.fs
theorem fsE_bad {fs gs : List Fc} {j : Nat} (hj : j < fs.length) (h : fcE (fs.getD j fc0) (gs.getD j fc0) = false) : fsE fs gs = false := by
  unfold fsE; rw [allTo_bad hj h]; simp
set_option maxRecDepth 100000 in
set_option maxHeartbeats 1000000 in
theorem isSameF_any (s t : ByteArray) (a b : Option Addr) (n m c d : Nat) (r q : List Int) (w : World) (hn : n ≤ 1048576) (hm : m ≤ 1048576) (ha : IV w a n r) (hb : IV w b m q) :
    Calls Try.prog 27 #[.agg #[.string s, .slice a n c], .agg #[.string t, .slice b m d]] w fun e w' => e = .returned (.bool (fcE (s, r) (t, q))) ∧ Below w.heap.size w w' := by
  have h2 := two_allocs (w := w) (.cells #[.string s, .slice a n c] 65) (.cells #[.string t, .slice b m d] 65)
  have HA := Lib.hid (ha.below h2)
  have HB := Lib.hid (hb.below h2)
  clear ha hb h2
  cases hs : (s.toList == t.toList) with
  | false =>
    have HR := Lib.hid (show fcE (s, r) (t, q) = false by unfold fcE; rw [hs]; rfl)
    go_enter Try.func27, Try.ntmps27
    go_wp2
    go_ret
    exact ⟨ret_bool' HR.out.symm, two_allocs _ _⟩
  | true =>
    have HR := Lib.hid (show fcE (s, r) (t, q) = decide (r = q) by unfold fcE; rw [hs]; rfl)
    go_enter Try.func27, Try.ntmps27
    go_wp2_with fail
    refine (equalI_any a b n m c d r q _ hn hm HA.out HB.out).mono ?_
    rintro e w1 ⟨rfl, g1⟩
    have HG := Lib.hid (bseq (two_allocs _ _) g1)
    clear g1
    go_wp2
    go_ret
    exact ⟨ret_bool' HR.out.symm, HG.out⟩
set_option maxRecDepth 100000 in
set_option maxHeartbeats 2000000 in
theorem equalF_any (ao bo : Option Addr) (m k c d : Nat) (fs gs : List Fc) (w : World) (hs : fsSz fs ≤ 1048576) (ht : fsSz gs ≤ 1048576) (ha : FV w ao m fs) (hb : FV w bo k gs) :
    Calls Try.prog 26 #[.slice ao m c, .slice bo k d, .func (.func 27) #[] #[]] w fun e w' => e = .returned (.bool (fsE fs gs)) ∧ Below w.heap.size w w' := by
  have hza := ha.1
  have hzb := hb.1
  have hm1 : m ≤ 1048576 := by unfold fsSz at hs; omega
  have hk1 : k ≤ 1048576 := by unfold fsSz at ht; omega
  by_cases hnm : m = k
  · subst hnm
    have HS := Lib.hid hs
    have HT := Lib.hid ht
    have HFE := Lib.hid (show fsE fs gs = allTo (fun j => fcE (fs.getD j fc0) (gs.getD j fc0)) m by unfold fsE; rw [← hza, ← hzb]; simp)
    have HA := Lib.hid ha
    have HB := Lib.hid hb
    have HZA := Lib.hid hza
    have HZB := Lib.hid hzb
    clear ha hb hza hzb
    clear hs ht
    go_enter Try.func26, Try.ntmps26
    go_wp2
    go_loopw [17] (fun iv wr => ∃ k : Nat, k ≤ m ∧ iv = .int .i64 k ∧ Hid (allTo (fun j => fcE (fs.getD j fc0) (gs.getD j fc0)) k = true) ∧ Hid (Below w.heap.size w wr)) (fun i _ => m - (intOf i).toNat)
    case atStart => exact ⟨0, by omega, rfl, Lib.hid rfl, Lib.hid (Below.refl _ _)⟩
    case round =>
      obtain ⟨k, hk, rfl, he, hw⟩ := hrel
      by_cases hlt : k < m
      · have hka : k < fs.length := by have := HZA.out; omega
        have hkb : k < gs.length := by have := HZB.out; omega
        have hl1 := fcs_le HS.out hka
        have hl2 := fcs_le HT.out hkb
        obtain ⟨a, s, r, a1, n1, c1, rfl, haw, e1, _, x0, x1, en1, hi1⟩ := (HA.out.below hw.out).at hlt
        obtain ⟨b, s', r', b1, n2, d1, rfl, hbw, e2, _, y0, y1, en2, hi2⟩ := (HB.out.below hw.out).at hlt
        have hn1 : n1 ≤ 1048576 := by omega
        have hn2 : n2 ≤ 1048576 := by omega
        have HE := Lib.hid (show fcE (fs.getD k fc0) (gs.getD k fc0) = fcE (s, r) (s', r') by rw [e1, e2])
        have HI1 := Lib.hid hi1
        have HI2 := Lib.hid hi2
        clear e1 e2 en1 en2 hl1 hl2 hi1 hi2
        go_wp2_with fail
        refine (isSameF_any s s' a1 b1 n1 n2 c1 d1 r r' _ hn1 hn2 (HI1.out.below (two_allocs _ _)) (HI2.out.below (two_allocs _ _))).mono ?_
        rintro e w1 ⟨rfl, g1⟩
        have HB1 := Lib.hid (bseq hw.out (bseq (two_allocs _ _) g1))
        clear g1 x0 x1 y0 y1
        cases hq : fcE (s, r) (s', r') with
        | false =>
          have HR := Lib.hid (show fsE fs gs = false from fsE_bad hka (HE.out.trans hq))
          go_wp2
          go_ret
          exact ⟨ret_bool' HR.out.symm, HB1.out⟩
        | true =>
          have HN := Lib.hid (allTo_succ he.out (HE.out.trans hq))
          go_wp2
          go_roundw
          case rel => exact ⟨k + 1, by omega, by go_num, HN, HB1⟩
          case measure => simp [intOf]; omega
      · obtain rfl : k = m := by omega
        go_wp2
        go_ret
        exact ⟨ret_bool' (by rw [HFE.out, he.out]), hw.out⟩
  · clear ha hb
    have hne : fsE fs gs = false := by unfold fsE; rw [← hza, ← hzb]; simp [hnm]
    rw [hne]
    clear hne hza hzb
    go_enter Try.func26, Try.ntmps26
    go_wp2
    go_ret
    exact ⟨rfl, Below.refl _ _⟩
set_option maxRecDepth 100000 in
set_option maxHeartbeats 4000000 in
theorem same_dimpl (v u : Value) (A B : Drw) (w : World) (ha : DV w v A) (hb : DV w u B) : Calls Try.prog 14 #[v, u] w fun e w' => e = .returned (.bool (samD A B)) ∧ Below w.heap.size w w' := by
  obtain ⟨ao, n, c, bo, m, d, rfl, _, _, hs, hp, hf⟩ := ha.out
  obtain ⟨ao', n', c', bo', m', d', rfl, _, _, hs', hp', hf'⟩ := hb.out
  have h2 := two_allocs (w := w) (.cells #[.int .i64 A.wd, .int .i64 A.hg, .slice ao n c, .slice bo m d] 34) (.cells #[.int .i64 B.wd, .int .i64 B.hg, .slice ao' n' c', .slice bo' m' d'] 34)
  have H2 := Lib.hid h2
  have HP := Lib.hid (hp.below h2)
  have HP' := Lib.hid (hp'.below h2)
  have HF := Lib.hid (hf.below h2)
  have HF' := Lib.hid (hf'.below h2)
  have HBX := Lib.hid (show ((w.alloc (.cells #[.int .i64 A.wd, .int .i64 A.hg, .slice ao n c, .slice bo m d] 34)).alloc (.cells #[.int .i64 B.wd, .int .i64 B.hg, .slice ao' n' c', .slice bo' m' d'] 34)).heap[w.heap.size]? = some (.cells #[.int .i64 A.wd, .int .i64 A.hg, .slice ao n c, .slice bo m d] 34 (0, 0)) from (Below.heap_alloc _ _ _ (by simp)).trans (World.alloc_heap_new _ _))
  have HBY := Lib.hid (show ((w.alloc (.cells #[.int .i64 A.wd, .int .i64 A.hg, .slice ao n c, .slice bo m d] 34)).alloc (.cells #[.int .i64 B.wd, .int .i64 B.hg, .slice ao' n' c', .slice bo' m' d'] 34)).heap[w.heap.size + 1]? = some (.cells #[.int .i64 B.wd, .int .i64 B.hg, .slice ao' n' c', .slice bo' m' d'] 34 (0, 0)) by
    have := World.alloc_heap_new (w.alloc (.cells #[.int .i64 A.wd, .int .i64 A.hg, .slice ao n c, .slice bo m d] 34)) (.cells #[.int .i64 B.wd, .int .i64 B.hg, .slice ao' n' c', .slice bo' m' d'] 34); simpa using this)
  have hn : n ≤ 1048576 := by have := hp.1; unfold dSz at hs; omega
  have hn' : n' ≤ 1048576 := by have := hp'.1; unfold dSz at hs'; omega
  have HS := Lib.hid (show fsSz A.fs ≤ 1048576 by unfold dSz at hs; omega)
  have HS' := Lib.hid (show fsSz B.fs ≤ 1048576 by unfold dSz at hs'; omega)
  have HR0 := Lib.hid (show samD A B = (decide (A.wd = B.wd) && decide (A.hg = B.hg) && decide (A.ps = B.ps) && fsE A.fs B.fs) from rfl)
  clear ha hb hp hp' hf hf' hs hs' h2
  generalize A.wd = aw at *
  generalize A.hg = ah at *
  generalize B.wd = bw at *
  generalize B.hg = bh at *
  by_cases h1 : aw = bw
  rotate_left
  · have HR := Lib.hid (HR0.out.trans (by simp [h1]) : samD A B = false)
    have e1 : decide (aw = bw) = false := by simpa using h1
    have e2 : (aw == bw) = false := by simpa using h1
    go_enter Try.func14, Try.ntmps14
    go_wp2
    go_ret
    exact ⟨ret_bool' HR.out.symm, H2.out⟩
  · subst h1
    by_cases h1 : ah = bh
    rotate_left
    · have HR := Lib.hid (HR0.out.trans (by simp [h1]) : samD A B = false)
      have e1 : decide (ah = bh) = false := by simpa using h1
      have e2 : (ah == bh) = false := by simpa using h1
      go_enter Try.func14, Try.ntmps14
      go_wp2
      go_ret
      exact ⟨ret_bool' HR.out.symm, H2.out⟩
    · subst h1
      cases hq : decide (A.ps = B.ps) with
      | false =>
        have HR := Lib.hid (HR0.out.trans (by rw [hq]; simp) : samD A B = false)
        go_enter Try.func14, Try.ntmps14
        go_wp2_with fail
        refine (equal_pts _ _ n n' c c' A.ps B.ps _ hn hn' HP.out HP'.out).mono ?_
        rintro e w1 ⟨rfl, g1⟩
        have HG := Lib.hid (bseq H2.out g1)
        clear g1
        rw [hq]
        go_wp2
        go_ret
        exact ⟨ret_bool' HR.out.symm, HG.out⟩
      | true =>
        have HR := Lib.hid (HR0.out.trans (by rw [hq]; simp) : samD A B = fsE A.fs B.fs)
        go_enter Try.func14, Try.ntmps14
        go_wp2_with fail
        refine (equal_pts _ _ n n' c c' A.ps B.ps _ hn hn' HP.out HP'.out).mono ?_
        rintro e w1 ⟨rfl, g1⟩
        have HG := Lib.hid g1
        have x3 := (cell_of_arr ((g1.block _ (by simp; omega)).trans HBX.out) (j := 3) rfl).1
        have y3 := (cell_of_arr ((g1.block _ (by simp)).trans HBY.out) (j := 3) rfl).1
        clear g1
        rw [hq]
        go_wp2_with fail
        refine (equalF_any _ _ m m' d d' A.fs B.fs _ HS.out HS'.out (HF.out.below HG.out) (HF'.out.below HG.out)).mono ?_
        rintro e w2 ⟨rfl, g2⟩
        have HG2 := Lib.hid (bseq H2.out (bseq HG.out g2))
        clear g2
        go_wp2
        go_ret
        exact ⟨ret_bool' HR.out.symm, HG2.out⟩
end Go.Proofs.Ytkmmhkhbpfkmcaa
