/- The points of a polygon are different; two tests of the same border agree. -/
import Derived.Test.YtjhmpmaademdcaaPolyG2
namespace Go.Proofs.Ytjhmpmaademdcaa
open Go.ChangeShapes Go.WideShapes Go.ChangeAt Go.RowKit
set_option linter.unusedVariables false
set_option linter.unusedSimpArgs false

theorem on_start (x y u v : Int) : onB x y u v x y = true := by
  have h : sdI x y u v x y = 0 := by unfold sdI; rw [sg_zero]; unfold crI; grind
  unfold onB
  rw [h]
  simp [inI]
  omega
theorem poly_ne {zs : List P2} (hv : polyB zs = true) {i j : Nat} (hij : i < j) (hj : j < zs.length) : zs.getD i (0, 0) ≠ zs.getD j (0, 0) := by
  obtain ⟨h3, _, _, hg, ha, _⟩ := poly_ok hv
  have ei : pt zs i = zs.getD i (0, 0) := pt_lt (by omega)
  have ej : pt zs j = zs.getD j (0, 0) := pt_lt hj
  rw [← ei, ← ej]
  intro h
  have g := fun k (hk : k < zs.length) => (allTo_iff (goOk zs) zs.length).1 hg k hk
  by_cases h1 : j = i + 1
  · have := g i (by omega)
    subst h1
    unfold goOk at this
    rw [(eqP_iff _ _).2 h] at this
    simp at this
  · by_cases h2 : (j + 1) % zs.length = i
    · have hi0 : i = 0 ∧ j + 1 = zs.length := by
        rcases Nat.lt_or_ge (j + 1) zs.length with hl | hl
        · rw [Nat.mod_eq_of_lt hl] at h2; omega
        · have : j + 1 = zs.length := by omega
          rw [this, Nat.mod_self] at h2; omega
      have := g j hj
      have e : pt zs (j + 1) = pt zs i := by rw [hi0.2, hi0.1]; unfold pt; simp
      unfold goOk at this
      rw [(eqP_iff _ _).2 (by rw [e, h])] at this
      simp at this
    · have := (allTo_iff _ _).1 ((allTo_iff _ _).1 ha i (by omega)) j hj
      unfold cellOk at this
      have ht : tcP (pt zs i) (pt zs (i + 1)) (pt zs j) (pt zs (j + 1)) = true := by
        rw [← h]
        unfold tcP tcB
        rw [on_start]
        simp
      rw [ht] at this
      simp at this
      omega
theorem rot_back {a b : List P2} {k : Nat} (hk : k < a.length) (h : rotL a k = b) : ∃ j, j < a.length ∧ a = rotL b j := by
  subst h
  by_cases h0 : k = 0
  · subst h0; exact ⟨0, hk, by simp [rotL]⟩
  · refine ⟨a.length - k, by omega, ?_⟩
    unfold rotL
    rw [List.drop_append_of_le_length (by simp), List.take_append_of_le_length (by simp)]
    simp [List.drop_eq_nil_of_le, List.take_of_length_le]
theorem rot_first {a : List P2} {k : Nat} (hk : k < a.length) : (rotL a k).getD 0 (0, 0) = a.getD k (0, 0) := by
  unfold rotL
  have : 0 < (a.drop k).length := by simp; omega
  simp only [List.getD_eq_getElem?_getD]
  rw [List.getElem?_append_left this]
  simp
theorem same_around {a b : List P2} (ha : polyB a = true) (hb : polyB b = true) : isSameB a b = aroundB a b := by
  have la := (poly_ok ha).1
  have lb := (poly_ok hb).1
  rw [Bool.eq_iff_iff]
  constructor
  · intro h
    unfold isSameB at h
    split at h
    · cases h
    · rename_i k hk
      obtain ⟨j, hj, e⟩ := rot_back (idx_lt hk) (of_decide_eq_true h)
      have hl : b.length = a.length := by rw [← of_decide_eq_true h, rotL_len _ _ (Nat.le_of_lt (idx_lt hk))]
      exact List.any_eq_true.2 ⟨j, List.mem_range.2 (by omega), decide_eq_true e⟩
  · intro h
    obtain ⟨j, hj, e⟩ := List.any_eq_true.1 h
    have hj := List.mem_range.1 hj
    have e := of_decide_eq_true e
    obtain ⟨k, hk, e2⟩ := rot_back hj e.symm
    have hl : a.length = b.length := by rw [e, rotL_len _ _ (Nat.le_of_lt hj)]
    have hk' : k < a.length := by omega
    have e0 : b.getD 0 (0, 0) = a.getD k (0, 0) := by rw [e2, rot_first hk']
    have hi : idxP a (b.getD 0 (0, 0)) = some k := by
      rw [e0]
      unfold idxP
      rw [List.findIdx?_eq_some_iff_getElem]
      refine ⟨hk', by simp [List.getD_eq_getElem?_getD, hk'], fun i hi => ?_⟩
      have := poly_ne ha hi hk'
      simp only [List.getD_eq_getElem?_getD, hk', Nat.lt_trans hi hk', List.getElem?_eq_getElem, Option.getD_some] at this
      simpa using fun h => this (by simpa [List.getD_eq_getElem?_getD, hk'] using h)
    unfold isSameB
    rw [hi]
    simpa using e2.symm
set_option maxRecDepth 100000 in
set_option maxHeartbeats 1000000 in
theorem same_pimpl (ao bo : Option Addr) (n m c d : Nat) (za zb : List P2) (w : World) (hn : n ≤ 1048576) (hm : m ≤ 1048576) (hc : n ≤ c) (ha : PV w ao n za) (hb : PV w bo m zb) :
    Calls Try.prog 58 #[.slice ao n c, .slice bo m d] w fun e w' => e = .returned (.bool (polyB za && polyB zb && aroundB za zb)) ∧ Below w.heap.size w w' := by
  have HN := Lib.hid ha.1
  have HM := Lib.hid hb.1
  have HA := Lib.hid ha
  have HB := Lib.hid hb
  clear ha hb
  cases c1 : polyB za with
  | false =>
    go_enter Try.func58, Try.ntmps58
    go_wp2_with fail
    refine (valid_pimpl ao n c za _ hn HA.out).mono ?_
    rintro e w1 ⟨rfl, g1⟩
    have HG1 := Lib.hid g1
    clear g1
    rw [c1]
    go_wp2
    go_ret
    exact ⟨rfl, HG1.out⟩
  | true =>
    cases c2 : polyB zb with
    | false =>
      go_enter Try.func58, Try.ntmps58
      go_wp2_with fail
      refine (valid_pimpl ao n c za _ hn HA.out).mono ?_
      rintro e w1 ⟨rfl, g1⟩
      have HG1 := Lib.hid g1
      clear g1
      rw [c1]
      go_wp2_with fail
      refine (valid_pimpl bo m d zb _ hm (HB.out.below HG1.out)).mono ?_
      rintro e w2 ⟨rfl, g2⟩
      have HG2 := Lib.hid (bseq HG1.out g2)
      clear g2
      rw [c2]
      go_wp2
      go_ret
      exact ⟨rfl, HG2.out⟩
    | true =>
      have hm3 : 3 ≤ m := by have := poly_ok c2; have := HM.out; omega
      have hm4 : m ≤ 24 := by have := poly_ok c2; have := HM.out; omega
      have hn3 : 3 ≤ n := by have := poly_ok c1; have := HN.out; omega
      have hn4 : n ≤ 24 := by have := poly_ok c1; have := HN.out; omega
      obtain ⟨b, rfl, _⟩ := HB.out.at (by omega)
      go_enter Try.func58, Try.ntmps58
      go_wp2_with fail
      refine (valid_pimpl ao n c za _ hn HA.out).mono ?_
      rintro e w1 ⟨rfl, g1⟩
      have HG1 := Lib.hid g1
      clear g1
      rw [c1]
      go_wp2_with fail
      refine (valid_pimpl _ m d zb _ hm (HB.out.below HG1.out)).mono ?_
      rintro e w2 ⟨rfl, g2⟩
      have HG2 := Lib.hid (bseq HG1.out g2)
      clear g2
      rw [c2]
      obtain ⟨b', hbe, hpb⟩ := (HB.out.below HG2.out).at (by omega)
      obtain rfl : b = b' := by simpa using hbe
      clear hbe
      have HSA := Lib.hid (same_around c1 c2)
      go_wp2_with fail
      refine (isSame_any ao b n m c d za zb _ (by omega) (by omega) hc (by omega) (by omega) (HA.out.below HG2.out) hpb HM.out).mono ?_
      rintro e w3 ⟨rfl, g3⟩
      have HG3 := Lib.hid (bseq HG2.out g3)
      clear g3
      go_wp2
      go_ret
      exact ⟨ret_bool' (by rw [HSA.out]; rfl), HG3.out⟩
end Go.Proofs.Ytjhmpmaademdcaa
