/- The leaves that a nesting uses: impl. -/
import Derived.Test.YtmfchcaidfloaaaUsd2
namespace Go.Proofs.Ytmfchcaidfloaaa
open Seq2 Go.ChangeShapes Go.WideShapes Go.ChangeAt Go.RowKit
set_option linter.unusedVariables false
set_option linter.unusedSimpArgs false

theorem cpI_none (ao : Option Addr) (c : Nat) (w : World) : Calls Try.prog 34 #[.slice ao 0 c] w fun e w' => e = .returned (.slice ao 0 c) ∧ w = w' := by
  go_enter Try.func34, Try.ntmps34
  go_wp2
  go_ret
  exact ⟨rfl, rfl⟩
set_option maxRecDepth 100000 in
set_option maxHeartbeats 16000000 in
theorem used_impl (ao : Option Addr) (n c : Nat) (zs : List Pm) (w : World) (hn : n ≤ 24) (hv : PmV w ao n zs) :
    Calls Try.prog 28 #[.slice ao n c] w fun e w' => ∃ v, e = .returned v ∧ OwnI w' w.heap.size v (usL zs n) ∧ Below w.heap.size w w' := by
  have HV := Lib.hid hv
  clear hv
  obtain ⟨i0, hi, hz0, hz1, hz2⟩ := info_parts infoI
  go_enter Try.func28, Try.ntmps28
  go_wp2
  go_loopw [3, 8] (fun ov iv wr => ∃ k : Nat, k ≤ n ∧ iv = .int .i64 k ∧ Hid (OwnI wr w.heap.size ov (lvL zs k)) ∧ Hid (Below w.heap.size w wr)) (fun _ i _ => n - (intOf i).toNat)
  case atStart => exact ⟨0, by omega, rfl, Lib.hid (World.ownsRow_nil _ _ _ _), Lib.hid (Below.refl _ _)⟩
  case round =>
    obtain ⟨k, hk, rfl, ho, hb⟩ := hrel
    by_cases hlt : k < n
    · obtain ⟨b, rfl, hcs⟩ := (HV.out.below hb.out).2.resolve_left (by omega)
      obtain ⟨hbw, c0, c1, c2, c3, c4⟩ := hcs k hlt
      have HST := Lib.hid (show lvL zs (k + 1) = lvL zs k ++ [(zs.getD k pm0).2.1] from rfl)
      have HLL := Lib.hid (lvL_len zs k)
      have hl := HLL.out
      clear hcs
      obtain ⟨z, hz⟩ : ∃ z, zs.getD k pm0 = z := ⟨_, rfl⟩
      rw [hz] at c0 c1 c2 c3 c4 HST
      obtain ⟨f, l, x, y, t⟩ := z
      simp only at c0 c1 c2 c3 c4 HST
      have hown := (show wr.ownsRow w.heap.size 2 1 _ (lvL zs k).length (flatI (lvL zs k)) from ho.out).alloc (.cells #[.int .i64 f, .int .i64 l, .int .i64 x, .int .i64 y, .int .i64 t] 45)
      have HB1 := Lib.hid (hb.out.alloc hb.out.size (.cells #[.int .i64 f, .int .i64 l, .int .i64 x, .int .i64 y, .int .i64 t] 45))
      have hsz := HB1.out.size
      clear hz
      go_wp2_with (at_builtin; refine wpList_app1 rfl _ _ 35 rfl w.heap.size 2 i0 (.int .i64 0) 8 Try.underlying35 hi hz0 hz1 hz2 rfl _ _ _ rfl hown _ rfl (by first | rfl | simp) rfl (by omega) (by omega) hsz ?_)
      intro v3 w3 ho3 hg3
      have HO3 := Lib.hid (show OwnI w3 w.heap.size v3 (lvL zs (k + 1)) by rw [HST.out]; exact OwnI.app HLL.out.symm ho3)
      have HB3 := Lib.hid (below_app HB1.out (Nat.le_refl _) hsz hown hg3)
      clear ho3 hg3
      go_wp2
      go_roundw
      case rel => exact ⟨k + 1, by omega, by go_num, HO3, HB3⟩
      case measure => simp [intOf]; omega
    · obtain rfl : k = n := by omega
      have HLL := Lib.hid (lvL_len zs k)
      have hl := HLL.out
      by_cases h0 : k = 0
      · subst h0
        obtain ⟨ao2, cp2, rfl, _⟩ := own_sliceI ho.out
        have HO := Lib.hid (show OwnI wr w.heap.size (.slice ao2 0 cp2) (usL zs 0) from ho.out)
        clear ho hl
        rw [show (lvL zs 0).length = 0 from rfl]
        go_wp2_with fail
        refine (Try.slices_Sort_none_33 ao2 cp2 wr).mono ?_
        rintro e w1 ⟨rfl, rfl⟩
        go_wp2_with fail
        refine (cpI_none ao2 cp2 _).mono ?_
        rintro e w2 ⟨rfl, rfl⟩
        go_wp2
        go_ret
        exact ⟨_, rfl, HO.out, hb.out⟩
      · obtain ⟨g, cap, rfl⟩ := OwnI.some ho.out (by omega)
        have HO := Lib.hid ho.out
        have HSM := Lib.hid (us_same zs k)
        have HSL := Lib.hid (srtL_len (lvL zs k))
        rw [hl] at HO HSL
        rw [hl]
        clear ho
        go_wp2_with fail
        refine (srt_own g cap k (lvL zs k) wr w (by omega) HO.out hb.out).mono ?_
        rintro e w1 ⟨rfl, ho1, g1⟩
        have HO1 := Lib.hid ho1
        have HG1 := Lib.hid g1
        clear ho1 g1
        go_wp2_with fail
        refine (cpI_own g cap k (srtL (lvL zs k)) w1 w HSL.out (by omega) (by omega) HO1.out HG1.out).mono ?_
        rintro e w2 ⟨k2, L, hL, hk2, rfl, ho2, g2⟩
        have HO2 := Lib.hid (show OwnI w2 w.heap.size (.slice (some ⟨g, 0, none⟩) k2 cap) (usL zs k) by rw [← HSM.out, ← hL]; exact ho2)
        have HG2 := Lib.hid g2
        clear ho2 g2 hL hk2
        go_wp2
        go_ret
        exact ⟨_, rfl, HO2.out, HG2.out⟩
set_option maxRecDepth 100000 in
set_option maxHeartbeats 4000000 in
theorem us_impl (ao : Option Addr) (n c : Nat) (zs : List Pm) (w : World) (hn : n ≤ 1048576) (hv : PmV w ao n zs) :
    Calls Try.prog 15 #[.slice ao n c] w (NewCI (usR zs).1 (usR zs).2 w) := by
  have HV := Lib.hid hv
  have HN := Lib.hid hv.1
  clear hv
  cases hB : pmsB zs with
  | false =>
    have HR := Lib.hid (show usR zs = ([], 1) by unfold usR; rw [hB]; rfl)
    rw [HR.out]
    go_enter Try.func15, Try.ntmps15
    go_wp2_with fail
    refine (pms_impl ao n c zs _ hn HV.out).mono ?_
    rintro e w1 ⟨rfl, g1⟩
    have HG := Lib.hid g1
    clear g1
    rw [hB]
    go_wp2
    go_ret2
    exact ⟨_, rfl, World.ownsRow_nil _ _ _ _, HG.out⟩
  | true =>
    have HR := Lib.hid (show usR zs = (usL zs n, 0) by unfold usR; rw [hB, HN.out]; rfl)
    have hn24 : n ≤ 24 := by rw [HN.out]; exact (pmsB_ok hB).1
    rw [HR.out]
    go_enter Try.func15, Try.ntmps15
    go_wp2_with fail
    refine (pms_impl ao n c zs _ hn HV.out).mono ?_
    rintro e w1 ⟨rfl, g1⟩
    have HG := Lib.hid g1
    have HV1 := Lib.hid (HV.out.below g1)
    clear g1
    rw [hB]
    go_wp2_with fail
    refine (used_impl ao n c zs _ hn24 HV1.out).mono ?_
    rintro e w2 ⟨v, rfl, ho, g2⟩
    have HO := Lib.hid (OwnI.low ho HG.out.size)
    have HG2 := Lib.hid (HG.out.trans (g2.mono HG.out.size))
    clear ho g2
    go_wp2
    go_ret2
    exact ⟨v, rfl, HO.out, HG2.out⟩
end Go.Proofs.Ytmfchcaidfloaaa
