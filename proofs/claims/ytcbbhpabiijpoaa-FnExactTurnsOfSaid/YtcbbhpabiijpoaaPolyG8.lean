/- The turns that map a polygon to itself. -/
import Derived.Test.YtcbbhpabiijpoaaPolyG7
import Derived.Test.YtcbbhpabiijpoaaPolyG3
import Derived.Test.YtcbbhpabiijpoaaOwnInt
namespace Go.Proofs.Ytcbbhpabiijpoaa
open Go.ChangeShapes Go.WideShapes Go.ChangeAt Go.RowKit
set_option linter.unusedVariables false
set_option linter.unusedSimpArgs false

def Diff (a : List P2) : Prop := ∀ i j, i < j → j < a.length → a.getD i (0, 0) ≠ a.getD j (0, 0)
theorem same_around' {a b : List P2} (hd : Diff a) : isSameB a b = aroundB a b := by
  rw [Bool.eq_iff_iff]
  constructor
  · intro h
    unfold isSameB at h
    split at h
    · cases h
    · rename_i k hk
      obtain ⟨j, hj, e⟩ := rot_back (idx_lt hk) (of_decide_eq_true h)
      have hl : b.length = a.length := by rw [← of_decide_eq_true h, rotL_len _ _ (Nat.le_of_lt (idx_lt hk))]
      exact List.any_eq_true.2 ⟨j, List.mem_range.2 (by omega), decide_eq_true e⟩
  · intro h
    obtain ⟨j, hj, e⟩ := List.any_eq_true.1 h
    have hj := List.mem_range.1 hj
    have e := of_decide_eq_true e
    obtain ⟨k, hk, e2⟩ := rot_back hj e.symm
    have hl : a.length = b.length := by rw [e, rotL_len _ _ (Nat.le_of_lt hj)]
    have hk' : k < a.length := by omega
    have e0 : b.getD 0 (0, 0) = a.getD k (0, 0) := by rw [e2, rot_first hk']
    have hi : idxP a (b.getD 0 (0, 0)) = some k := by
      rw [e0]
      unfold idxP
      rw [List.findIdx?_eq_some_iff_getElem]
      refine ⟨hk', by simp [List.getD_eq_getElem?_getD, hk'], fun i hi => ?_⟩
      have := hd i k hi hk'
      simp only [List.getD_eq_getElem?_getD, hk', Nat.lt_trans hi hk', List.getElem?_eq_getElem, Option.getD_some] at this
      simpa using fun h => this (by simpa [List.getD_eq_getElem?_getD, hk'] using h)
    unfold isSameB
    rw [hi]
    simpa using e2.symm
theorem turnL_zero (zs : List P2) : turnL zs 0 = zs := by
  apply ext_getD (turnL_len _ _)
  intro k hk
  rw [turnL_len] at hk
  rw [turnL_at hk]
  unfold turnJ turnP
  rw [if_neg (by omega)]
  rfl
theorem shift_getD {zs : List P2} {dx dy : Int} {k : Nat} (hk : k < zs.length) : (shiftL zs dx dy).getD k (0, 0) = ((zs.getD k (0, 0)).1 + dx, (zs.getD k (0, 0)).2 + dy) := shift_at hk rfl
theorem diff_norm {zs : List P2} (hv : polyB zs = true) : Diff (normL (turnL zs 0)) := by
  rw [turnL_zero]
  intro i j hij hj
  rw [normL_len] at hj
  have h := poly_ne hv hij hj
  unfold normL
  rw [shift_getD (by omega), shift_getD hj]
  intro e
  apply h
  have e1 := congrArg Prod.fst e
  have e2 := congrArg Prod.snd e
  simp only at e1 e2
  exact Prod.ext (by omega) (by omega)
def turnsTo (zs : List P2) (k : Nat) : List Int := ((List.range k).filter fun (j : Nat) => aroundB (normL (turnL zs 0)) (normL (turnL zs (j : Int)))).map fun (j : Nat) => (j : Int)
theorem turnsTo_le (zs : List P2) (k : Nat) : (turnsTo zs k).length ≤ k := by
  unfold turnsTo
  rw [List.length_map]
  exact Nat.le_trans (List.length_filter_le _ _) (by simp)
theorem turnsTo_yes {zs : List P2} {k : Nat} (h : aroundB (normL (turnL zs 0)) (normL (turnL zs (k : Int))) = true) : turnsTo zs (k + 1) = turnsTo zs k ++ [(k : Int)] := by
  unfold turnsTo
  rw [List.range_succ, List.filter_append, List.map_append]
  simp [h]
theorem turnsTo_no {zs : List P2} {k : Nat} (h : aroundB (normL (turnL zs 0)) (normL (turnL zs (k : Int))) = false) : turnsTo zs (k + 1) = turnsTo zs k := by
  unfold turnsTo
  rw [List.range_succ, List.filter_append, List.map_append]
  simp [h]
def turnsR (zs : List P2) : List Int × Int := if polyB zs then (turnsTo zs 8, 0) else ([], 1)
theorem turnsR_len (zs : List P2) : (turnsR zs).1.length ≤ 1000 := by
  unfold turnsR
  split
  · have := turnsTo_le zs 8
    show (turnsTo zs 8).length ≤ 1000
    omega
  · simp
theorem flatI_snoc (zs : List Int) (x : Int) : flatI zs ++ [.int .i64 x] = flatI (zs ++ [x]) := by simp [flatI]
set_option maxRecDepth 100000 in
set_option maxHeartbeats 4000000 in
theorem turns_spec (ao : Option Addr) (n c : Nat) (zs : List P2) (w : World) (hn : n ≤ 1048576) (hp : PV w ao n zs) :
    Calls Try.prog 43 #[.slice ao n c] w (NewCI (turnsR zs).1 (turnsR zs).2 w) := by
  have hz := hp.1
  cases hv : polyB zs with
  | false =>
    simp only [turnsR, hv]
    have HP := Lib.hid hp
    have HZ := Lib.hid hz
    clear hp hz
    go_enter Try.func43, Try.ntmps43
    go_wp2_with fail
    refine (ok3_any ao n c zs _ hn HP.out).mono ?_
    rintro e w1 ⟨rfl, g1⟩
    have HG := Lib.hid g1
    clear g1
    rw [hv]
    go_wp2
    exact bodyPost_ret (v := .tuple #[.slice none 0 0, .int .i64 1]) (by simp [results, Try.results43, go_sem]) rfl (newCI_nil HG.out)
  | true =>
    simp only [turnsR, hv]
    have h3 : 3 ≤ n := by have := poly_ok hv; omega
    have h4 : n ≤ 24 := by have := poly_ok hv; omega
    have hsm := small_ok (poly_ok hv).2.2.1
    have HD := Lib.hid (diff_norm hv)
    obtain ⟨i0, hi, hz0, hz1, hz2⟩ := info_int
    have HL0 := Lib.hid (show (normL (turnL zs 0)).length = n by rw [normL_len, turnL_len]; exact hz.symm)
    have HP := Lib.hid hp
    have HZ := Lib.hid hz
    have HSM := Lib.hid hsm
    clear hp hz hsm
    go_enter Try.func43, Try.ntmps43
    go_wp2_with fail
    refine (ok3_any _ n c zs _ hn HP.out).mono ?_
    rintro e w1 ⟨rfl, g1⟩
    have HP1 := Lib.hid (HP.out.below g1)
    have HG := Lib.hid g1
    clear g1
    rw [hv]
    go_wp2_with fail
    refine (turned_any_s ao n c zs 0 _ (by omega) (by omega) HP1.out HSM.out (by omega) (by omega)).mono ?_
    rintro e wS ⟨v, rfl, hv2⟩
    obtain ⟨gS, capS, rfl, _, hcS, _, hpS⟩ := own_at (by have := HL0.out; omega) hv2.1
    have HPS := Lib.hid (pts_PV rfl hpS)
    have HGS := Lib.hid (bseq HG.out hv2.2)
    have HPZ := Lib.hid (HP1.out.below hv2.2)
    clear hv2 hpS
    have HO := Lib.hid (show (wS.alloc (.cells #[] 2)).ownsRow wS.heap.size 2 1 _ (turnsTo zs 0).length (flatI (turnsTo zs 0)) from own_newI wS)
    have HBS := Lib.hid (one_alloc (w := wS) (.cells #[] 2))
    go_wp2
    go_loopw [5, 6] (fun sv tv wr => ∃ (k : Nat), k ≤ 8 ∧ tv = .int .i64 k ∧ Hid (wr.ownsRow wS.heap.size 2 1 sv (turnsTo zs k).length (flatI (turnsTo zs k))) ∧ Hid (Below wS.heap.size wS wr)) (fun _ i _ => 8 - (intOf i).toNat)
    case atStart => exact ⟨0, by omega, rfl, HO, HBS⟩
    case round =>
      obtain ⟨k, hk, rfl, ho, hb⟩ := hrel
      by_cases hlt : k < 8
      · have hkI : (k : Int) < 8 := by omega
        have HLK := Lib.hid (show (normL (turnL zs (k : Int))).length = n by rw [normL_len, turnL_len]; exact HZ.out.symm)
        go_wp2_with fail
        refine (turned_any_s ao n c zs (k : Int) _ (by omega) (by omega) (HPZ.out.below hb.out) HSM.out (by omega) (by omega)).mono ?_
        rintro e w2 ⟨v, rfl, hv2⟩
        obtain ⟨g2, cap2, rfl, _, hc2, _, hp2⟩ := own_at (by have := HLK.out; omega) hv2.1
        have HP2 := Lib.hid hp2
        have HO2 := Lib.hid (own_below ho.out hv2.2)
        have HW2 := Lib.hid (bseq hb.out hv2.2)
        clear hv2 hp2
        go_wp2_with fail
        refine (around_spec (some ⟨gS, 0, none⟩) g2 _ _ capS _ (normL (turnL zs 0)) (normL (turnL zs (k : Int))) _ (by have := HL0.out; omega) (by have := HLK.out; omega) hc2 (HPS.out.below HW2.out) (pts_PV rfl HP2.out)).mono ?_
        rintro e w3 ⟨rfl, g3⟩
        have HO3 := Lib.hid (own_below HO2.out g3)
        have HW3 := Lib.hid (bseq HW2.out g3)
        clear g3
        cases hd : aroundB (normL (turnL zs 0)) (normL (turnL zs (k : Int)))
        · have HN := Lib.hid (turnsTo_no hd)
          go_wp2
          go_roundw
          case rel => exact ⟨k + 1, by omega, by go_num, by rw [HN.out]; exact HO3, HW3⟩
          case measure => simp [intOf]; omega
        · have HY := Lib.hid (turnsTo_yes hd)
          have HLE := Lib.hid (turnsTo_le zs k)
          go_wp2_with (at_builtin; (refine wpList_appN rfl _ _ 57 rfl wS.heap.size 2 i0 _ 1 8 Try.underlying57 hi hz0 hz1 hz2 rfl (by omega) _ _ _ rfl HO3.out _ rfl rfl rfl rfl (by have := HLE.out; omega) (by have := HLE.out; omega) HW3.out.size ?_))
          intro v4 w4 ho4 hg4
          have HO4 := Lib.hid ho4
          have HW4 := Lib.hid ((HW3.out.alloc HW3.out.size _).trans (own_grown (HO3.out.alloc _) hg4 (Nat.le_refl _) (HW3.out.alloc HW3.out.size _).size))
          clear ho4 hg4
          go_wp2
          go_roundw
          case rel => exact ⟨k + 1, by omega, by go_num, Lib.hid (by rw [HY.out, List.length_append, ← flatI_snoc]; exact HO4.out), HW4⟩
          case measure => simp [intOf]; omega
      · obtain rfl : k = 8 := by omega
        go_wp2
        exact bodyPost_ret (v := .tuple #[_, .int .i64 0]) (by simp [results, Try.results43, go_sem]) rfl ⟨_, rfl, ho.out.base_le HGS.out.size, bseq HGS.out hb.out⟩
set_option maxRecDepth 100000 in
set_option maxHeartbeats 4000000 in
theorem turns_impl (ao : Option Addr) (n c : Nat) (zs : List P2) (w : World) (hn : n ≤ 1048576) (hp : PV w ao n zs) :
    Calls Try.prog 44 #[.slice ao n c] w (NewCI (turnsR zs).1 (turnsR zs).2 w) := by
  have hz := hp.1
  cases hv : polyB zs with
  | false =>
    simp only [turnsR, hv]
    have HP := Lib.hid hp
    have HZ := Lib.hid hz
    clear hp hz
    go_enter Try.func44, Try.ntmps44
    go_wp2_with fail
    refine (valid_pimpl ao n c zs _ hn HP.out).mono ?_
    rintro e w1 ⟨rfl, g1⟩
    have HG := Lib.hid g1
    clear g1
    rw [hv]
    go_wp2
    exact bodyPost_ret (v := .tuple #[.slice none 0 0, .int .i64 1]) (by simp [results, Try.results44, go_sem]) rfl (newCI_nil HG.out)
  | true =>
    simp only [turnsR, hv]
    have h3 : 3 ≤ n := by have := poly_ok hv; omega
    have h4 : n ≤ 24 := by have := poly_ok hv; omega
    have hsm := small_ok (poly_ok hv).2.2.1
    have HD := Lib.hid (diff_norm hv)
    obtain ⟨i0, hi, hz0, hz1, hz2⟩ := info_int
    have HL0 := Lib.hid (show (normL (turnL zs 0)).length = n by rw [normL_len, turnL_len]; exact hz.symm)
    have HP := Lib.hid hp
    have HZ := Lib.hid hz
    have HSM := Lib.hid hsm
    clear hp hz hsm
    go_enter Try.func44, Try.ntmps44
    go_wp2_with fail
    refine (valid_pimpl _ n c zs _ hn HP.out).mono ?_
    rintro e w1 ⟨rfl, g1⟩
    have HP1 := Lib.hid (HP.out.below g1)
    have HG := Lib.hid g1
    clear g1
    rw [hv]
    go_wp2_with fail
    refine (turned_any_i ao n c zs 0 _ (by omega) (by omega) HP1.out HSM.out (by omega) (by omega)).mono ?_
    rintro e wS ⟨v, rfl, hv2⟩
    obtain ⟨gS, capS, rfl, _, hcS, _, hpS⟩ := own_at (by have := HL0.out; omega) hv2.1
    have HPS := Lib.hid (pts_PV rfl hpS)
    have HGS := Lib.hid (bseq HG.out hv2.2)
    have HPZ := Lib.hid (HP1.out.below hv2.2)
    clear hv2 hpS
    have HO := Lib.hid (show wS.ownsRow wS.heap.size 2 1 (.slice none 0 0) (turnsTo zs 0).length (flatI (turnsTo zs 0)) from ⟨rfl, Or.inl ⟨rfl, rfl⟩⟩)
    have HBS := Lib.hid (Below.refl wS.heap.size wS)
    go_wp2
    go_loopw [4, 12, 6] (fun sv tv jv wr => ∃ (k : Nat), k ≤ 8 ∧ tv = .int .i64 k ∧ Hid (wr.ownsRow wS.heap.size 2 1 sv (turnsTo zs k).length (flatI (turnsTo zs k))) ∧ Hid (Below wS.heap.size wS wr)) (fun _ i _ _ => 8 - (intOf i).toNat)
    case atStart => exact ⟨0, by omega, rfl, HO, HBS⟩
    case round =>
      obtain ⟨k, hk, rfl, ho, hb⟩ := hrel
      by_cases hlt : k < 8
      · have hkI : (k : Int) < 8 := by omega
        have HLK := Lib.hid (show (normL (turnL zs (k : Int))).length = n by rw [normL_len, turnL_len]; exact HZ.out.symm)
        go_wp2_with fail
        refine (turned_any_i ao n c zs (k : Int) _ (by omega) (by omega) (HPZ.out.below hb.out) HSM.out (by omega) (by omega)).mono ?_
        rintro e w2 ⟨v, rfl, hv2⟩
        obtain ⟨g2, cap2, rfl, _, hc2, _, hp2⟩ := own_at (by have := HLK.out; omega) hv2.1
        have HP2 := Lib.hid hp2
        have HO2 := Lib.hid (own_below ho.out hv2.2)
        have HW2 := Lib.hid (bseq hb.out hv2.2)
        clear hv2 hp2
        have HSA := Lib.hid (same_around' (b := normL (turnL zs (k : Int))) HD.out)
        go_wp2_with fail
        refine (isSame_any (some ⟨gS, 0, none⟩) g2 _ _ capS _ (normL (turnL zs 0)) (normL (turnL zs (k : Int))) _ (by have := HL0.out; omega) (by have := HL0.out; omega) hcS (by have := HLK.out; omega) (by have := HLK.out; omega) (HPS.out.below HW2.out) HP2.out rfl).mono ?_
        rintro e w3 ⟨rfl, g3⟩
        have HO3 := Lib.hid (own_below HO2.out g3)
        have HW3 := Lib.hid (bseq HW2.out g3)
        clear g3
        rw [HSA.out]
        cases hd : aroundB (normL (turnL zs 0)) (normL (turnL zs (k : Int)))
        · have HN := Lib.hid (turnsTo_no hd)
          go_wp2
          go_roundw
          case rel => exact ⟨k + 1, by omega, by go_num, by rw [HN.out]; exact HO3, HW3⟩
          case measure => simp [intOf]; omega
        · have HY := Lib.hid (turnsTo_yes hd)
          have HLE := Lib.hid (turnsTo_le zs k)
          go_wp2_with (at_builtin; (refine wpList_appN rfl _ _ 57 rfl wS.heap.size 2 i0 _ 1 8 Try.underlying57 hi hz0 hz1 hz2 rfl (by omega) _ _ _ rfl HO3.out _ rfl rfl rfl rfl (by have := HLE.out; omega) (by have := HLE.out; omega) HW3.out.size ?_))
          intro v4 w4 ho4 hg4
          have HO4 := Lib.hid ho4
          have HW4 := Lib.hid ((HW3.out.alloc HW3.out.size _).trans (own_grown (HO3.out.alloc _) hg4 (Nat.le_refl _) (HW3.out.alloc HW3.out.size _).size))
          clear ho4 hg4
          go_wp2
          go_roundw
          case rel => exact ⟨k + 1, by omega, by go_num, Lib.hid (by rw [HY.out, List.length_append, ← flatI_snoc]; exact HO4.out), HW4⟩
          case measure => simp [intOf]; omega
      · obtain rfl : k = 8 := by omega
        go_wp2
        exact bodyPost_ret (v := .tuple #[_, .int .i64 0]) (by simp [results, Try.results44, go_sem]) rfl ⟨_, rfl, ho.out.base_le HGS.out.size, bseq HGS.out hb.out⟩
end Go.Proofs.Ytcbbhpabiijpoaa
