/- A polygon that begins with another point, of impl; one that is moved, of spec and of impl. -/
import Derived.Test.YtjhmpmaademdcaaPolyG4
namespace Go.Proofs.Ytjhmpmaademdcaa
open Go.ChangeShapes Go.WideShapes Go.ChangeAt Go.RowKit
set_option linter.unusedVariables false
set_option linter.unusedSimpArgs false

def shiftR (zs : List P2) (dx dy : Int) : List P2 × Int := if polyB zs then (if inI dx (-20000) 20000 && inI dy (-20000) 20000 then (if polyB (shiftL zs dx dy) then (shiftL zs dx dy, 0) else ([], 6)) else ([], 2)) else ([], 1)
theorem newP_own {w w' : World} {v : Value} {zs : List P2} (h : NewP w w' v zs) : ∃ ao cap, v = .slice ao zs.length cap ∧ PV w' ao zs.length zs ∧ w'.ownsRow w.heap.size 30 2 (.slice ao zs.length cap) zs.length (flatP zs) := by
  obtain ⟨ao, cap, rfl, hp⟩ := h.pv
  exact ⟨ao, cap, rfl, hp, h.1⟩
set_option maxRecDepth 100000 in
set_option maxHeartbeats 1000000 in
theorem start_impl (ao : Option Addr) (n c : Nat) (zs : List P2) (k : Int) (w : World) (hn : n ≤ 1048576) (hc : n ≤ c) (hp : PV w ao n zs) :
    Calls Try.prog 56 #[.slice ao n c, .int .i64 k] w (NewC (startR zs k).1 (startR zs k).2 w) := by
  have hz := hp.1
  cases hv : polyB zs with
  | false =>
    simp only [startR, hv]
    have HP := Lib.hid hp
    have HZ := Lib.hid hz
    clear hp hz
    go_enter Try.func56, Try.ntmps56
    go_wp2_with fail
    refine (valid_pimpl ao n c zs _ hn HP.out).mono ?_
    rintro e w1 ⟨rfl, g1⟩
    have HG := Lib.hid g1
    clear g1
    rw [hv]
    go_wp2
    exact bodyPost_ret (v := .tuple #[.slice none 0 0, .int .i64 1]) (by simp [results, Try.results56, go_sem]) rfl (newC_nil HG.out)
  | true =>
    have h3 : 3 ≤ n := by have := poly_ok hv; omega
    have h4 : n ≤ 24 := by have := poly_ok hv; omega
    obtain ⟨b, rfl, hpp⟩ := hp.at (by omega)
    by_cases hk0 : k < 0
    · have hk : inI k 0 (zs.length - 1) = false := by simp [inI]; omega
      simp only [startR, hv, hk]
      have HP := Lib.hid hp
      have HZ := Lib.hid hz
      have HPP := Lib.hid hpp
      have HK := Lib.hid hk
      clear hp hz hpp hk
      go_enter Try.func56, Try.ntmps56
      go_wp2_with fail
      refine (valid_pimpl _ n c zs _ hn HP.out).mono ?_
      rintro e w1 ⟨rfl, g1⟩
      have HG := Lib.hid g1
      clear g1
      rw [hv]
      go_wp2
      exact bodyPost_ret (v := .tuple #[.slice none 0 0, .int .i64 2]) (by simp [results, Try.results56, go_sem]) rfl (newC_nil HG.out)
    · obtain ⟨j, rfl⟩ : ∃ j : Nat, k = j := ⟨k.toNat, by omega⟩
      by_cases hj : j < n
      · have hk : inI (j : Int) 0 (zs.length - 1) = true := by simp [inI]; omega
        simp only [startR, hv, hk]
        clear hk0
        have hk0 : (0 : Int) ≤ (j : Int) := by omega
        have HP := Lib.hid hp
        have HZ := Lib.hid hz
        have HPP := Lib.hid hpp
        have HK := Lib.hid hk
        clear hp hz hpp hk
        go_enter Try.func56, Try.ntmps56
        go_wp2_with fail
        refine (valid_pimpl _ n c zs _ hn HP.out).mono ?_
        rintro e w1 ⟨rfl, g1⟩
        have HPP1 := Lib.hid (HPP.out.below g1 HPP.out.1)
        have HG := Lib.hid g1
        clear g1
        rw [hv]
        go_wp2_with fail
        refine (startingAt_any b n c j zs _ HZ.out (by omega) (by omega) hj hc HPP1.out).mono ?_
        rintro e w2 ⟨v, rfl, hv2⟩
        have HO := Lib.hid (hv2.1.base_le HG.out.size)
        have HG2 := Lib.hid (bseq HG.out hv2.2)
        clear hv2
        go_wp2
        exact bodyPost_ret (v := .tuple #[v, .int .i64 0]) (by simp [results, Try.results56, go_sem]) rfl ⟨v, rfl, by simpa using HO.out, HG2.out⟩
      · have hk : inI (j : Int) 0 (zs.length - 1) = false := by simp [inI]; omega
        simp only [startR, hv, hk]
        have HP := Lib.hid hp
        have HZ := Lib.hid hz
        have HPP := Lib.hid hpp
        have HK := Lib.hid hk
        clear hp hz hpp hk
        go_enter Try.func56, Try.ntmps56
        go_wp2_with fail
        refine (valid_pimpl _ n c zs _ hn HP.out).mono ?_
        rintro e w1 ⟨rfl, g1⟩
        have HG := Lib.hid g1
        clear g1
        rw [hv]
        go_wp2
        exact bodyPost_ret (v := .tuple #[.slice none 0 0, .int .i64 2]) (by simp [results, Try.results56, go_sem]) rfl (newC_nil HG.out)
set_option maxRecDepth 100000 in
set_option maxHeartbeats 2000000 in
theorem shift_impl (ao : Option Addr) (n c : Nat) (zs : List P2) (dx dy : Int) (w : World) (hn : n ≤ 1048576) (hp : PV w ao n zs) :
    Calls Try.prog 57 #[.slice ao n c, .int .i64 dx, .int .i64 dy] w (NewC (shiftR zs dx dy).1 (shiftR zs dx dy).2 w) := by
  have hz := hp.1
  cases hv : polyB zs with
  | false =>
    simp only [shiftR, hv]
    have HP := Lib.hid hp
    have HZ := Lib.hid hz
    clear hp hz
    go_enter Try.func57, Try.ntmps57
    go_wp2_with fail
    refine (valid_pimpl ao n c zs _ hn HP.out).mono ?_
    rintro e w1 ⟨rfl, g1⟩
    have HG := Lib.hid g1
    clear g1
    rw [hv]
    go_wp2
    exact bodyPost_ret (v := .tuple #[.slice none 0 0, .int .i64 1]) (by simp [results, Try.results57, go_sem]) rfl (newC_nil HG.out)
  | true =>
    have h3 : 3 ≤ n := by have := poly_ok hv; omega
    have h4 : n ≤ 24 := by have := poly_ok hv; omega
    have hsm := small_ok (poly_ok hv).2.2.1
    cases hx : inI dx (-20000) 20000 with
    | false =>
      simp only [shiftR, hv, hx]
      have HP := Lib.hid hp
      have HZ := Lib.hid hz
      have HSM := Lib.hid hsm
      clear hp hz hsm
      go_enter Try.func57, Try.ntmps57
      go_wp2_with fail
      refine (valid_pimpl ao n c zs _ hn HP.out).mono ?_
      rintro e w1 ⟨rfl, g1⟩
      have HG := Lib.hid g1
      have HP1 := Lib.hid (HP.out.below g1)
      clear g1
      rw [hv]
      go_wp2_with fail
      refine (within2 20000 dx dy _ _ _ rfl (by omega) (by omega)).mono ?_
      rintro e wa ⟨rfl, hwa⟩
      have hga := one_alloc (w := w1) (.cells #[.int .i64 dx, .int .i64 dy] 2)
      rw [hwa] at hga
      have HGR := Lib.hid (bseq HG.out hga)
      have HGQ := Lib.hid hga
      clear hwa hga
      rw [hx]
      go_wp2
      exact bodyPost_ret (v := .tuple #[.slice none 0 0, .int .i64 2]) (by simp [results, Try.results57, go_sem]) rfl (newC_nil HGR.out)
    | true =>
      cases hy : inI dy (-20000) 20000 with
      | false =>
        simp only [shiftR, hv, hx, hy]
        have HP := Lib.hid hp
        have HZ := Lib.hid hz
        have HSM := Lib.hid hsm
        clear hp hz hsm
        go_enter Try.func57, Try.ntmps57
        go_wp2_with fail
        refine (valid_pimpl ao n c zs _ hn HP.out).mono ?_
        rintro e w1 ⟨rfl, g1⟩
        have HG := Lib.hid g1
        have HP1 := Lib.hid (HP.out.below g1)
        clear g1
        rw [hv]
        go_wp2_with fail
        refine (within2 20000 dx dy _ _ _ rfl (by omega) (by omega)).mono ?_
        rintro e wa ⟨rfl, hwa⟩
        have hga := one_alloc (w := w1) (.cells #[.int .i64 dx, .int .i64 dy] 2)
        rw [hwa] at hga
        have HGR := Lib.hid (bseq HG.out hga)
        have HGQ := Lib.hid hga
        clear hwa hga
        rw [hx, hy]
        go_wp2
        exact bodyPost_ret (v := .tuple #[.slice none 0 0, .int .i64 2]) (by simp [results, Try.results57, go_sem]) rfl (newC_nil HGR.out)
      | true =>
        have bx := in_bd hx
        have bY := in_bd hy
        cases hw : polyB (shiftL zs dx dy) with
        | false =>
          simp only [shiftR, hv, hx, hy, hw]
          have HP := Lib.hid hp
          have HZ := Lib.hid hz
          have HSM := Lib.hid hsm
          clear hp hz hsm
          go_enter Try.func57, Try.ntmps57
          go_wp2_with fail
          refine (valid_pimpl ao n c zs _ hn HP.out).mono ?_
          rintro e w1 ⟨rfl, g1⟩
          have HG := Lib.hid g1
          have HP1 := Lib.hid (HP.out.below g1)
          clear g1
          rw [hv]
          go_wp2_with fail
          refine (within2 20000 dx dy _ _ _ rfl (by omega) (by omega)).mono ?_
          rintro e wa ⟨rfl, hwa⟩
          have hga := one_alloc (w := w1) (.cells #[.int .i64 dx, .int .i64 dy] 2)
          rw [hwa] at hga
          have HGR := Lib.hid (bseq HG.out hga)
          have HGQ := Lib.hid hga
          clear hwa hga
          rw [hx, hy]
          go_wp2_with fail
          refine (shifted_impl ao n c zs dx dy _ (by omega) (HP1.out.below HGQ.out) (fun k hk => by have := HSM.out k hk; omega) (by omega) (by omega)).mono ?_
          rintro e w2 ⟨v, rfl, hv2⟩
          obtain ⟨vo, vc, rfl, pv, ow⟩ := newP_own hv2
          have HL := Lib.hid (shiftL_len zs dx dy)
          have HG2 := Lib.hid (bseq HGR.out hv2.2)
          have HO2 := Lib.hid (ow.base_le HGR.out.size)
          clear hv2 ow
          have PV := Lib.hid pv
          clear pv
          go_wp2_with fail
          refine (isValid_any vo _ vc _ _ (by have := HL.out; have := HZ.out; omega) PV.out).mono ?_
          rintro e w3 ⟨rfl, g3⟩
          have HO3 := Lib.hid (own_below HO2.out g3)
          have HG3 := Lib.hid (bseq HG2.out g3)
          clear g3
          rw [hw]
          go_wp2
          exact bodyPost_ret (v := .tuple #[.slice none 0 0, .int .i64 6]) (by simp [results, Try.results57, go_sem]) rfl (newC_nil HG3.out)
        | true =>
          simp only [shiftR, hv, hx, hy, hw]
          have HP := Lib.hid hp
          have HZ := Lib.hid hz
          have HSM := Lib.hid hsm
          clear hp hz hsm
          go_enter Try.func57, Try.ntmps57
          go_wp2_with fail
          refine (valid_pimpl ao n c zs _ hn HP.out).mono ?_
          rintro e w1 ⟨rfl, g1⟩
          have HG := Lib.hid g1
          have HP1 := Lib.hid (HP.out.below g1)
          clear g1
          rw [hv]
          go_wp2_with fail
          refine (within2 20000 dx dy _ _ _ rfl (by omega) (by omega)).mono ?_
          rintro e wa ⟨rfl, hwa⟩
          have hga := one_alloc (w := w1) (.cells #[.int .i64 dx, .int .i64 dy] 2)
          rw [hwa] at hga
          have HGR := Lib.hid (bseq HG.out hga)
          have HGQ := Lib.hid hga
          clear hwa hga
          rw [hx, hy]
          go_wp2_with fail
          refine (shifted_impl ao n c zs dx dy _ (by omega) (HP1.out.below HGQ.out) (fun k hk => by have := HSM.out k hk; omega) (by omega) (by omega)).mono ?_
          rintro e w2 ⟨v, rfl, hv2⟩
          obtain ⟨vo, vc, rfl, pv, ow⟩ := newP_own hv2
          have HL := Lib.hid (shiftL_len zs dx dy)
          have HG2 := Lib.hid (bseq HGR.out hv2.2)
          have HO2 := Lib.hid (ow.base_le HGR.out.size)
          clear hv2 ow
          have PV := Lib.hid pv
          clear pv
          go_wp2_with fail
          refine (isValid_any vo _ vc _ _ (by have := HL.out; have := HZ.out; omega) PV.out).mono ?_
          rintro e w3 ⟨rfl, g3⟩
          have HO3 := Lib.hid (own_below HO2.out g3)
          have HG3 := Lib.hid (bseq HG2.out g3)
          clear g3
          rw [hw]
          go_wp2
          exact bodyPost_ret (v := .tuple #[.slice vo (shiftL zs dx dy).length vc, .int .i64 0]) (by simp [results, Try.results57, go_sem]) rfl ⟨_, rfl, by simpa using HO3.out, HG3.out⟩
theorem startR_len (zs : List P2) (k : Int) : (startR zs k).1.length ≤ 1000 := by
  unfold startR
  split
  · rename_i h
    have := poly_ok h
    split
    · rename_i h2
      have := in_bd h2
      show (rotL zs k.toNat).length ≤ 1000
      rw [rotL_len _ _ (by omega)]; omega
    · simp
  · simp
theorem shiftR_len (zs : List P2) (dx dy : Int) : (shiftR zs dx dy).1.length ≤ 1000 := by
  unfold shiftR
  split
  · rename_i h
    have := poly_ok h
    split
    · split
      · show (shiftL zs dx dy).length ≤ 1000
        rw [shiftL_len]; omega
      · simp
    · simp
  · simp
end Go.Proofs.Ytjhmpmaademdcaa
