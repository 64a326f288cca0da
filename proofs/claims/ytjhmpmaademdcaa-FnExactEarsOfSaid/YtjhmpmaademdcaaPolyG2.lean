/- Have two polygons the same border: of impl. -/
import Derived.Test.YtjhmpmaademdcaaGrow
import Derived.Test.YtjhmpmaademdcaaPolyG1
namespace Go.Proofs.Ytjhmpmaademdcaa
open Go.ChangeShapes Go.WideShapes Go.ChangeAt Go.RowKit
set_option linter.unusedVariables false
set_option linter.unusedSimpArgs false

/-- The first place of a point. -/
def idxP (zs : List P2) (p : P2) : Option Nat := zs.findIdx? fun q => decide (q = p)
def ixI : Option Nat → Int
  | none => -1
  | some k => k
theorem idx_succ {zs : List P2} {p : P2} {k : Nat} (hk : k < zs.length) (h : idxP (zs.take k) p = none) (e : zs.getD k (0, 0) ≠ p) : idxP (zs.take (k + 1)) p = none := by
  unfold idxP at *
  rw [List.take_succ_eq_append_getElem hk, List.findIdx?_append, h]
  have e' : zs[k] ≠ p := by simpa [List.getD_eq_getElem?_getD, hk] using e
  simp [List.findIdx?_cons, e']
theorem idx_found {zs : List P2} {p : P2} {k : Nat} (hk : k < zs.length) (h : idxP (zs.take k) p = none) (e : zs.getD k (0, 0) = p) : idxP zs p = some k := by
  unfold idxP at *
  have e' : zs[k] = p := by simpa [List.getD_eq_getElem?_getD, hk] using e
  have h2 : zs = zs.take k ++ zs.drop k := (List.take_append_drop k zs).symm
  rw [h2, List.findIdx?_append, h, List.drop_eq_getElem_cons hk]
  simp [List.findIdx?_cons, e', List.length_take]
  omega
theorem idx_none {zs : List P2} {p : P2} {k : Nat} (hk : zs.length ≤ k) (h : idxP (zs.take k) p = none) : idxP zs p = none := by rwa [List.take_of_length_le hk] at h
set_option maxRecDepth 100000 in
set_option maxHeartbeats 1000000 in
theorem index_outl (b n c : Nat) (zs : List P2) (x y : Int) (w : World) (hz : n = zs.length) (hn : n ≤ 1048576) (hp : PtsAt w b zs) :
    Calls Try.prog 163 #[.slice (some ⟨b, 0, none⟩) n c, .agg #[.int .i64 x, .int .i64 y]] w fun e w' => e = .returned (.int .i64 (ixI (idxP zs (x, y)))) ∧ Below w.heap.size w w' := by
  have hbw := hp.1
  have HZ := Lib.hid hz
  have HP := Lib.hid hp
  clear hz hp
  have HBX : Hid (Below w.heap.size w (w.alloc (.cells #[.int .i64 x, .int .i64 y] 30))) := Lib.hid (one_alloc _)
  have HCX := Lib.hid (cells2_of (World.alloc_heap_new w (.cells #[.int .i64 x, .int .i64 y] 30)))
  go_enter Try.func163, Try.ntmps163
  go_wp2
  go_loopw [8, 5] (fun iv jv wr => ∃ k : Nat, k ≤ n ∧ iv = .int .i64 k ∧ Hid (idxP (zs.take k) (x, y) = none) ∧ Hid (Below w.heap.size w wr) ∧ Hid (Below (w.heap.size + 1) (w.alloc (.cells #[.int .i64 x, .int .i64 y] 30)) wr)) (fun i _ _ => n - (intOf i).toNat)
  case atStart => exact ⟨0, by omega, rfl, Lib.hid rfl, HBX, Lib.hid (Below.refl _ _)⟩
  case round =>
    obtain ⟨k, hk, rfl, he, hw, hw2⟩ := hrel
    by_cases hlt : k < n
    · have hkz : k < zs.length := by have := HZ.out; omega
      have hp1 := HP.out.below hw.out HP.out.1
      have hbw1 := hp1.1
      have hbx : w.heap.size < wr.heap.size := by have := hw2.out.size; simp at this; omega
      obtain ⟨u, v, e, a0, a1⟩ := hp1.pt hkz
      have hx := HCX.out
      have x0 := (hw2.out.cell (p := ⟨w.heap.size, 0, none⟩) (by simp)).trans hx.1
      have x1 := (hw2.out.cell (p := ⟨w.heap.size, 1, none⟩) (by simp)).trans hx.2.2.1
      clear hp1 hx
      have E := Lib.hid e
      clear e
      go_wp2
      refine wp_region_below (by kernel_rfl) (by kernel_rfl) ?_
      repeat (first | (refine wq_skip ?_ ?_; (focus (go_simp; done)); (try simp only [Act.put, List.setIfInBounds_toArray, List.set_cons_zero, List.set_cons_succ])) | (refine wq_val ?_ ?_; (focus (go_simp; done)); apply Exists.intro; refine ⟨fun w1 hw1 => ?_, ?_⟩; (obtain ⟨hc, hf⟩ := bcell hw1; clear hw1; go_simp; (first | done | with_reducible rfl | exact eql2 _ _ _ | exact neq2 _ _ _)); (try simp only [Act.put, List.setIfInBounds_toArray, List.set_cons_zero, List.set_cons_succ])))
      refine wq_nil ?_
      intro w1 hb1
      have HW := Lib.hid (bseq hw.out hb1)
      have HW2 := Lib.hid (hw2.out.trans (hb1.mono (by omega)))
      clear hb1
      by_cases hxy : x = u ∧ y = v
      · obtain ⟨rfl, rfl⟩ := hxy
        go_wp2
        go_ret
        exact ⟨ret_int (by rw [idx_found hkz he.out E.out]; rfl), HW.out⟩
      · have hd : (decide (x = u) && decide (y = v)) = false := by by_cases h1 : x = u <;> by_cases h2 : y = v <;> simp_all
        generalize (decide (x = u) && decide (y = v)) = tt at *
        subst hd
        have HN := Lib.hid (idx_succ hkz he.out (by rw [E.out]; intro h; simp at h; exact hxy ⟨h.1.symm, h.2.symm⟩))
        clear hxy
        go_wp2
        go_roundw
        case rel => exact ⟨k + 1, by omega, by go_num, HN, HW, HW2⟩
        case measure => simp [intOf]; omega
    · go_wp2
      go_ret
      exact ⟨ret_int (by rw [idx_none (by have := HZ.out; omega) he.out]; rfl), hw.out⟩
set_option maxRecDepth 100000 in
set_option maxHeartbeats 1000000 in
theorem equal_outl (ao bo : Option Addr) (n m c d : Nat) (za zb : List P2) (w : World) (hn : n ≤ 1048576) (hm : m ≤ 1048576) (ha : PV w ao n za) (hb : PV w bo m zb) :
    Calls Try.prog 164 #[.slice ao n c, .slice bo m d] w fun e w' => e = .returned (.bool (decide (za = zb))) ∧ Below w.heap.size w w' := by
  have hza := ha.1
  have hzb := hb.1
  by_cases hnm : n = m
  · subst hnm
    have HA := Lib.hid ha
    have HB := Lib.hid hb
    have HZA := Lib.hid hza
    have HZB := Lib.hid hzb
    clear ha hb hza hzb
    go_enter Try.func164, Try.ntmps164
    go_wp2
    go_loopw [13, 5] (fun iv jv wr => ∃ k : Nat, k ≤ n ∧ iv = .int .i64 k ∧ Hid (za.take k = zb.take k) ∧ Hid (Below w.heap.size w wr)) (fun i _ _ => n - (intOf i).toNat)
    case atStart => exact ⟨0, by omega, rfl, Lib.hid rfl, Lib.hid (Below.refl _ _)⟩
    case round =>
      obtain ⟨k, hk, rfl, he, hw⟩ := hrel
      by_cases hlt : k < n
      · have hka : k < za.length := by have := HZA.out; omega
        have hkb : k < zb.length := by have := HZB.out; omega
        obtain ⟨a, rfl, hpa⟩ := (HA.out.below hw.out).at (by omega)
        obtain ⟨b, rfl, hpb⟩ := (HB.out.below hw.out).at (by omega)
        have haw := hpa.1
        have hbw := hpb.1
        obtain ⟨x, y, e, a0, a1⟩ := hpa.pt hka
        obtain ⟨u, v, e', b0, b1⟩ := hpb.pt hkb
        clear hpa hpb
        have E := Lib.hid e
        have E' := Lib.hid e'
        clear e e'
        go_wp2
        refine wp_region_below (by kernel_rfl) (by kernel_rfl) ?_
        repeat (first | (refine wq_skip ?_ ?_; (focus (go_simp; done)); (try simp only [Act.put, List.setIfInBounds_toArray, List.set_cons_zero, List.set_cons_succ])) | (refine wq_val ?_ ?_; (focus (go_simp; done)); apply Exists.intro; refine ⟨fun w1 hw1 => ?_, ?_⟩; (obtain ⟨hc, hf⟩ := bcell hw1; clear hw1; go_simp; (first | done | with_reducible rfl | exact eql2 _ _ _ | exact neq2 _ _ _)); (try simp only [Act.put, List.setIfInBounds_toArray, List.set_cons_zero, List.set_cons_succ])))
        refine wq_nil ?_
        intro w1 hb1
        have HB1 := Lib.hid hb1
        clear hb1
        by_cases hxy : x = u ∧ y = v
        · obtain ⟨rfl, rfl⟩ := hxy
          go_wp2
          go_roundw
          case rel => exact ⟨k + 1, by omega, by go_num, Lib.hid (take_eq_succ hka hkb he.out (E.out.trans E'.out.symm)), Lib.hid (bseq hw.out HB1.out)⟩
          case measure => simp [intOf]; omega
        · have hne : decide (za = zb) = false := by simp; intro h; subst h; have := E.out.symm.trans E'.out; simp at this; exact hxy this
          have HNE := Lib.hid hne
          clear hne
          have hd : (!(decide (x = u) && decide (y = v))) = true := by by_cases h1 : x = u <;> by_cases h2 : y = v <;> simp_all
          clear hxy
          generalize (!(decide (x = u) && decide (y = v))) = tt at *
          subst hd
          go_wp2
          go_ret
          exact ⟨ret_bool' HNE.out.symm, bseq hw.out HB1.out⟩
      · go_wp2
        go_ret
        exact ⟨ret_bool' (by simp; exact take_eq_all HZA.out.symm HZB.out.symm (by rw [← show k = n by omega]; exact he.out)), hw.out⟩
  · clear ha hb
    have hne : decide (za = zb) = false := by simp; intro h; subst h; omega
    rw [hne]
    clear hne hza hzb
    go_enter Try.func164, Try.ntmps164
    go_wp2
    go_ret
    exact ⟨rfl, Below.refl _ _⟩
/-- impl's test: begin with the second one's first point. -/
def isSameB (a b : List P2) : Bool := match idxP a (b.getD 0 (0, 0)) with
  | none => false
  | some k => decide (rotL a k = b)
theorem idx_lt {zs : List P2} {p : P2} {k : Nat} (h : idxP zs p = some k) : k < zs.length := by
  unfold idxP at h
  exact (List.findIdx?_eq_some_iff_getElem.1 h).1
set_option maxRecDepth 100000 in
set_option maxHeartbeats 1000000 in
theorem isSame_any (ao : Option Addr) (b n m c d : Nat) (za zb : List P2) (w : World) (h1 : 1 ≤ n) (hn : n ≤ 1000) (hnc : n ≤ c) (h2 : 1 ≤ m) (hm : m ≤ 1000) (ha : PV w ao n za) (hb : PtsAt w b zb) (hz : m = zb.length) :
    Calls Try.prog 110 #[.slice ao n c, .slice (some ⟨b, 0, none⟩) m d] w fun e w' => e = .returned (.bool (isSameB za zb)) ∧ Below w.heap.size w w' := by
  obtain ⟨a, rfl, hpa⟩ := ha.at h1
  have hza := ha.1
  have hbw := hb.1
  obtain ⟨x, y, e, b0, b1⟩ := hb.pt (k := 0) (by omega)
  simp only [Nat.zero_mul, Nat.zero_add] at b0 b1
  have PB := Lib.hid (pts_PV hz hb)
  clear ha hb
  have HPA := Lib.hid hpa
  have HZA := Lib.hid hza
  have E := Lib.hid e
  have HZ := Lib.hid hz
  clear hpa hza e hz
  go_enter Try.func110, Try.ntmps110
  go_wp2_with fail
  refine (index_outl a n c za x y _ HZA.out (by omega) HPA.out).mono ?_
  rintro e w1 ⟨rfl, g1⟩
  have HG := Lib.hid g1
  clear g1
  cases hi : idxP za (x, y) with
  | none =>
    have HI := Lib.hid hi
    clear hi
    go_wp2
    go_ret
    exact ⟨ret_bool' (by unfold isSameB; rw [E.out, HI.out]), HG.out⟩
  | some k =>
    have hk := idx_lt hi
    rw [← HZA.out] at hk
    have hk0 : (0 : Int) ≤ (k : Int) := by omega
    have HI := Lib.hid hi
    clear hi
    have hd : decide (ixI (some k) < 0) = false := by simp only [ixI]; exact decide_eq_false (by omega)
    simp only [ixI] at *
    go_wp2_with fail
    refine (startingAt_any a n c k za _ HZA.out h1 hn hk hnc (HPA.out.below HG.out HPA.out.1)).mono ?_
    rintro e w2 ⟨v, rfl, hv⟩
    obtain ⟨vo, vc, rfl, pv⟩ := hv.pv
    have hlen := rotL_len za k (by have := HZA.out; omega)
    have HW2 := Lib.hid (bseq HG.out hv.2)
    clear hv
    have PV := Lib.hid pv
    have HLEN := Lib.hid hlen
    clear pv hlen
    go_wp2_with fail
    refine (equal_outl vo (some ⟨b, 0, none⟩) _ m vc d (rotL za k) zb _ (by have := HZA.out; have := HLEN.out; omega) (by omega) PV.out (PB.out.below HW2.out)).mono ?_
    rintro e w3 ⟨rfl, g3⟩
    have HW3 := Lib.hid (bseq HW2.out g3)
    clear g3
    go_wp2
    go_ret
    exact ⟨ret_bool' (by unfold isSameB; rw [E.out, HI.out]), HW3.out⟩
end Go.Proofs.Ytjhmpmaademdcaa
