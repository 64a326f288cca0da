/- All ears of a polygon: spec and impl. -/
import Derived.Test.YtjhmpmaademdcaaEar3
import Derived.Test.YtjhmpmaademdcaaPolyG8
namespace Go.Proofs.Ytjhmpmaademdcaa
open Go.ChangeShapes Go.WideShapes Go.ChangeAt Go.RowKit
set_option linter.unusedVariables false
set_option linter.unusedSimpArgs false

theorem diff_of {zs : List P2} (hv : polyB zs = true) : Diff zs := fun i j hij hj => poly_ne hv hij hj
theorem diff_eq {zs : List P2} (hd : Diff zs) {i j : Nat} (hi : i < zs.length) (hj : j < zs.length) : zs.getD i (0, 0) = zs.getD j (0, 0) ↔ i = j := by
  constructor
  · intro h
    rcases Nat.lt_trichotomy i j with c | c | c
    · exact absurd h (hd i j c hj)
    · exact c
    · exact absurd h.symm (hd j i c hi)
  · rintro rfl; rfl
theorem con_in {a b c p : P2} (h : sdP a b c = 1) : conP a b c p = inTP a b c p := by
  unfold conP inTP inT
  rw [h]
  have r1 := side_rng a.1 a.2 b.1 b.2 p.1 p.2
  have r2 := side_rng b.1 b.2 c.1 c.2 p.1 p.2
  have r3 := side_rng c.1 c.2 a.1 a.2 p.1 p.2
  unfold sdP conI
  rw [Bool.eq_iff_iff]
  simp
  omega
theorem ear_same {zs : List P2} (hd : Diff zs) {k : Nat} (hk : k < zs.length) : earI zs k = earS zs k := by
  unfold earI earS
  by_cases h : sdP (pt zs (k + zs.length - 1)) (pt zs k) (pt zs (k + 1)) = 1
  · rw [decide_eq_true h, Bool.true_and, Bool.true_and]
    unfold earTo earSTo
    refine allTo_congr fun j hj => ?_
    have ja := Nat.mod_lt (k + zs.length - 1) (show 0 < zs.length by omega)
    have jc := Nat.mod_lt (k + 1) (show 0 < zs.length by omega)
    unfold freeI freeS
    rw [con_in h]
    have e : hasP [pt zs (k + zs.length - 1), pt zs k, pt zs (k + 1)] (zs.getD j (0, 0)) = (decide (j = k) || decide (j = (k + zs.length - 1) % zs.length) || decide (j = (k + 1) % zs.length)) := by
      rw [Bool.eq_iff_iff, has_iff]
      simp only [List.mem_cons, List.not_mem_nil, or_false, Bool.or_eq_true, decide_eq_true_eq]
      rw [pt_lt hk]
      unfold pt
      rw [diff_eq hd hj ja, diff_eq hd hj hk, diff_eq hd hj jc]
      constructor
      · rintro (h | h | h)
        · exact Or.inl (Or.inr h)
        · exact Or.inl (Or.inl h)
        · exact Or.inr h
      · rintro ((h | h) | h)
        · exact Or.inr (Or.inl h)
        · exact Or.inl h
        · exact Or.inr (Or.inr h)
    rw [e]
    generalize inTP (pt zs (k + zs.length - 1)) (pt zs k) (pt zs (k + 1)) (zs.getD j (0, 0)) = t
    generalize (decide (j = k) || decide (j = (k + zs.length - 1) % zs.length) || decide (j = (k + 1) % zs.length)) = u
    cases t <;> cases u <;> rfl
  · rw [decide_eq_false h]; rfl
/-- The numbers below k with a property, in order. -/
def filI (f : Nat → Bool) (k : Nat) : List Int := ((List.range k).filter f).map fun (j : Nat) => (j : Int)
theorem filI_le (f : Nat → Bool) (k : Nat) : (filI f k).length ≤ k := by
  unfold filI
  rw [List.length_map]
  exact Nat.le_trans (List.length_filter_le _ _) (by simp)
theorem filI_yes {f : Nat → Bool} {k : Nat} (h : f k = true) : filI f (k + 1) = filI f k ++ [(k : Int)] := by
  unfold filI
  rw [List.range_succ, List.filter_append, List.map_append]
  simp [h]
theorem filI_no {f : Nat → Bool} {k : Nat} (h : f k = false) : filI f (k + 1) = filI f k := by
  unfold filI
  rw [List.range_succ, List.filter_append, List.map_append]
  simp [h]
def earsR (zs : List P2) : List Int × Int := if polyB zs then (filI (earS zs) zs.length, 0) else ([], 1)
theorem earsR_len (zs : List P2) : (earsR zs).1.length ≤ 1000 := by
  unfold earsR
  split
  · rename_i h
    have := filI_le (earS zs) zs.length
    have := poly_ok h
    show (filI (earS zs) zs.length).length ≤ 1000
    omega
  · simp
set_option maxRecDepth 100000 in
set_option maxHeartbeats 4000000 in
theorem ears_spec (ao : Option Addr) (n c : Nat) (zs : List P2) (w : World) (hn : n ≤ 1048576) (hp : PV w ao n zs) :
    Calls Try.prog 32 #[.slice ao n c] w (NewCI (earsR zs).1 (earsR zs).2 w) := by
  have hz := hp.1
  cases hv : polyB zs with
  | false =>
    simp only [earsR, hv]
    have HP := Lib.hid hp
    have HZ := Lib.hid hz
    clear hp hz
    go_enter Try.func32, Try.ntmps32
    go_wp2_with fail
    refine (ok3_any ao n c zs _ hn HP.out).mono ?_
    rintro e w1 ⟨rfl, g1⟩
    have HG := Lib.hid g1
    clear g1
    rw [hv]
    go_wp2
    exact bodyPost_ret (v := .tuple #[.slice none 0 0, .int .i64 1]) (by simp [results, Try.results32, go_sem]) rfl (newCI_nil HG.out)
  | true =>
    simp only [earsR, hv]
    have h3 : 3 ≤ n := by have := poly_ok hv; omega
    have h4 : n ≤ 24 := by have := poly_ok hv; omega
    have HV := Lib.hid (poly_ok hv).2.2.1
    obtain ⟨i0, hi, hz0, hz1, hz2⟩ := info_int
    obtain ⟨b, rfl, hpp⟩ := hp.at (by omega)
    have hbw := hpp.1
    have HPP := Lib.hid hpp
    clear hpp
    have HP := Lib.hid hp
    have HZ := Lib.hid hz
    clear hp hz
    go_enter Try.func32, Try.ntmps32
    go_wp2_with fail
    refine (ok3_any _ n c zs _ hn HP.out).mono ?_
    rintro e wS ⟨rfl, g1⟩
    have HP1 := Lib.hid (HPP.out.below g1 hbw)
    have HGS := Lib.hid g1
    clear g1
    rw [hv]
    have HO := Lib.hid (show (wS.alloc (.cells #[] 2)).ownsRow wS.heap.size 2 1 _ (filI (earS zs) 0).length (flatI (filI (earS zs) 0)) from own_newI wS)
    have HBS := Lib.hid (one_alloc (w := wS) (.cells #[] 2))
    have hbs := HP1.out.1
    go_wp2
    go_loopw [4, 5] (fun sv tv wr => ∃ (k : Nat), k ≤ n ∧ tv = .int .i64 k ∧ Hid (wr.ownsRow wS.heap.size 2 1 sv (filI (earS zs) k).length (flatI (filI (earS zs) k))) ∧ Hid (Below wS.heap.size wS wr)) (fun _ i _ => n - (intOf i).toNat)
    case atStart => exact ⟨0, by omega, rfl, HO, HBS⟩
    case round =>
      obtain ⟨k, hk, rfl, ho, hb⟩ := hrel
      by_cases hlt : k < n
      · go_wp2_with fail
        refine (ear_spec b n c k zs _ HZ.out (by omega) (by omega) hlt HV.out (HP1.out.below hb.out hbs)).mono ?_
        rintro e w3 ⟨rfl, g3⟩
        have HO3 := Lib.hid (own_below ho.out g3)
        have HW3 := Lib.hid (bseq hb.out g3)
        clear g3
        cases hd : earS zs k
        · have HN := Lib.hid (filI_no hd)
          go_wp2
          go_roundw
          case rel => exact ⟨k + 1, by omega, by go_num, by rw [HN.out]; exact HO3, HW3⟩
          case measure => simp [intOf]; omega
        · have HY := Lib.hid (filI_yes hd)
          have HLE := Lib.hid (filI_le (earS zs) k)
          go_wp2_with (at_builtin; (refine wpList_appN rfl _ _ 45 rfl wS.heap.size 2 i0 _ 1 8 Try.underlying45 hi hz0 hz1 hz2 rfl (by omega) _ _ _ rfl HO3.out _ rfl rfl rfl rfl (by have := HLE.out; omega) (by have := HLE.out; omega) HW3.out.size ?_))
          intro v4 w4 ho4 hg4
          have HO4 := Lib.hid ho4
          have HW4 := Lib.hid ((HW3.out.alloc HW3.out.size _).trans (own_grown (HO3.out.alloc _) hg4 (Nat.le_refl _) (HW3.out.alloc HW3.out.size _).size))
          clear ho4 hg4
          go_wp2
          go_roundw
          case rel => exact ⟨k + 1, by omega, by go_num, Lib.hid (by rw [HY.out, List.length_append, ← flatI_snoc]; exact HO4.out), HW4⟩
          case measure => simp [intOf]; omega
      · obtain rfl : k = n := by omega
        have hO := ho.out
        rw [HZ.out] at hO
        have HO9 := Lib.hid hO
        clear hO
        go_wp2
        exact bodyPost_ret (v := .tuple #[_, .int .i64 0]) (by simp [results, Try.results32, go_sem]) rfl ⟨_, rfl, HO9.out.base_le HGS.out.size, bseq HGS.out hb.out⟩
set_option maxRecDepth 100000 in
set_option maxHeartbeats 4000000 in
theorem ears_impl (ao : Option Addr) (n c : Nat) (zs : List P2) (w : World) (hn : n ≤ 1048576) (hp : PV w ao n zs) :
    Calls Try.prog 33 #[.slice ao n c] w (NewCI (earsR zs).1 (earsR zs).2 w) := by
  have hz := hp.1
  cases hv : polyB zs with
  | false =>
    simp only [earsR, hv]
    have HP := Lib.hid hp
    have HZ := Lib.hid hz
    clear hp hz
    go_enter Try.func33, Try.ntmps33
    go_wp2_with fail
    refine (valid_pimpl ao n c zs _ hn HP.out).mono ?_
    rintro e w1 ⟨rfl, g1⟩
    have HG := Lib.hid g1
    clear g1
    rw [hv]
    go_wp2
    exact bodyPost_ret (v := .tuple #[.slice none 0 0, .int .i64 1]) (by simp [results, Try.results33, go_sem]) rfl (newCI_nil HG.out)
  | true =>
    simp only [earsR, hv]
    have h3 : 3 ≤ n := by have := poly_ok hv; omega
    have h4 : n ≤ 24 := by have := poly_ok hv; omega
    have HV := Lib.hid (poly_ok hv).2.2.1
    have HD := Lib.hid (diff_of hv)
    obtain ⟨i0, hi, hz0, hz1, hz2⟩ := info_int
    obtain ⟨b, rfl, hpp⟩ := hp.at (by omega)
    have hbw := hpp.1
    have HPP := Lib.hid hpp
    clear hpp
    have HP := Lib.hid hp
    have HZ := Lib.hid hz
    clear hp hz
    go_enter Try.func33, Try.ntmps33
    go_wp2_with fail
    refine (valid_pimpl _ n c zs _ hn HP.out).mono ?_
    rintro e wS ⟨rfl, g1⟩
    have HP1 := Lib.hid (HPP.out.below g1 hbw)
    have HGS := Lib.hid g1
    clear g1
    rw [hv]
    have HO := Lib.hid (show wS.ownsRow wS.heap.size 2 1 (.slice none 0 0) (filI (earS zs) 0).length (flatI (filI (earS zs) 0)) from ⟨rfl, Or.inl ⟨rfl, rfl⟩⟩)
    have HBS := Lib.hid (Below.refl wS.heap.size wS)
    have hbs := HP1.out.1
    go_wp2
    go_loopw [4, 11] (fun sv tv wr => ∃ (k : Nat), k ≤ n ∧ tv = .int .i64 k ∧ Hid (wr.ownsRow wS.heap.size 2 1 sv (filI (earS zs) k).length (flatI (filI (earS zs) k))) ∧ Hid (Below wS.heap.size wS wr)) (fun _ i _ => n - (intOf i).toNat)
    case atStart => exact ⟨0, by omega, rfl, HO, HBS⟩
    case round =>
      obtain ⟨k, hk, rfl, ho, hb⟩ := hrel
      by_cases hlt : k < n
      · have HSA := Lib.hid (ear_same HD.out (k := k) (by have := HZ.out; omega))
        go_wp2_with fail
        refine (isEar_impl b n c k zs _ HZ.out (by omega) (by omega) hlt HV.out (HP1.out.below hb.out hbs)).mono ?_
        rintro e w3 ⟨rfl, g3⟩
        have HO3 := Lib.hid (own_below ho.out g3)
        have HW3 := Lib.hid (bseq hb.out g3)
        clear g3
        rw [HSA.out]
        cases hd : earS zs k
        · have HN := Lib.hid (filI_no hd)
          go_wp2
          go_roundw
          case rel => exact ⟨k + 1, by omega, by go_num, by rw [HN.out]; exact HO3, HW3⟩
          case measure => simp [intOf]; omega
        · have HY := Lib.hid (filI_yes hd)
          have HLE := Lib.hid (filI_le (earS zs) k)
          go_wp2_with (at_builtin; (refine wpList_appN rfl _ _ 45 rfl wS.heap.size 2 i0 _ 1 8 Try.underlying45 hi hz0 hz1 hz2 rfl (by omega) _ _ _ rfl HO3.out _ rfl rfl rfl rfl (by have := HLE.out; omega) (by have := HLE.out; omega) HW3.out.size ?_))
          intro v4 w4 ho4 hg4
          have HO4 := Lib.hid ho4
          have HW4 := Lib.hid ((HW3.out.alloc HW3.out.size _).trans (own_grown (HO3.out.alloc _) hg4 (Nat.le_refl _) (HW3.out.alloc HW3.out.size _).size))
          clear ho4 hg4
          go_wp2
          go_roundw
          case rel => exact ⟨k + 1, by omega, by go_num, Lib.hid (by rw [HY.out, List.length_append, ← flatI_snoc]; exact HO4.out), HW4⟩
          case measure => simp [intOf]; omega
      · obtain rfl : k = n := by omega
        have hO := ho.out
        rw [HZ.out] at hO
        have HO9 := Lib.hid hO
        clear hO
        go_wp2
        exact bodyPost_ret (v := .tuple #[_, .int .i64 0]) (by simp [results, Try.results33, go_sem]) rfl ⟨_, rfl, HO9.out.base_le HGS.out.size, bseq HGS.out hb.out⟩
end Go.Proofs.Ytjhmpmaademdcaa
