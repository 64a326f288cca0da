/- The mean shade: impl. -/
import Derived.Test.YthjimogeimigmaaDoorVen17
namespace Go.Proofs.YthjimogeimigmaaDoor
open Seq2 Go.ChangeShapes Go.WideShapes Go.ChangeAt Go.RowKit
set_option linter.unusedVariables false
set_option linter.unusedSimpArgs false

theorem near_dr (a b : Int) (ha : -1000000 ≤ a) (ha2 : a ≤ 1000000) (hb : 0 < b) (hb2 : b ≤ 1000000) : drI a b = nearI a b := by
  have h1 : (b == 0) = false := by simp; omega
  have h2 : wiI 1000000000000 [a, b] = true := by rw [wi2]; simp [inI]; omega
  unfold drI
  rw [h1, h2]; rfl
set_option maxRecDepth 100000 in
set_option maxHeartbeats 8000000 in
theorem mean_impl (ao : Option Addr) (n c : Nat) (zs : List Vn) (w : World) (hn : n ≤ 1048576) (hv : VL w ao n zs) (ht : TabAt w) : Calls Tryd.prog 37 #[.slice ao n c] w fun e w' => e = .returned (.tuple #[.int .i64 ((mnR zs).1), .int .i64 ((mnR zs).2)]) ∧ Below w.heap.size w w' := by
  have HV := Lib.hid hv
  have HZ := Lib.hid hv.1
  have HT := Lib.hid ht
  clear hv ht
  obtain ⟨R, hR⟩ : ∃ R, mnR zs = R := ⟨_, rfl⟩
  have HR := Lib.hid hR
  rw [hR]
  clear hR
  obtain ⟨r0, r1⟩ := R
  cases hall : vnsB zs with
  | false =>
    obtain ⟨rfl, rfl⟩ := Prod.mk.inj (HR.out.symm.trans (show mnR zs = (0, 1) by unfold mnR; rw [hall]; rfl))
    go_enter Tryd.func37, Tryd.ntmps37
    go_wp2_with fail
    refine (all_ven ao n c zs _ hn HV.out HT.out).mono ?_
    rintro e w1 ⟨rfl, g1⟩
    have HG := Lib.hid g1
    clear g1
    rw [hall]
    go_wp2
    go_ret2
    exact ⟨rfl, HG.out⟩
  | true =>
  have hr := HR.out.symm.trans (show mnR zs = if n ≤ 64 then (if n = 0 then (0, 6) else (nearI (shS zs n) n, 0)) else (0, 5) by unfold mnR; rw [hall, ← HZ.out]; rfl)
  by_cases h64 : n ≤ 64
  rotate_left
  · have hd : decide ((64 : Int) < (n : Int)) = true := by simp; omega
    rw [if_neg h64] at hr
    obtain ⟨rfl, rfl⟩ := Prod.mk.inj hr
    clear hr
    go_enter Tryd.func37, Tryd.ntmps37
    go_wp2_with fail
    refine (all_ven ao n c zs _ hn HV.out HT.out).mono ?_
    rintro e w1 ⟨rfl, g1⟩
    have HG := Lib.hid g1
    clear g1
    rw [hall]
    go_wp2
    go_ret2
    exact ⟨rfl, HG.out⟩
  · have hd : decide ((64 : Int) < (n : Int)) = false := by simp; omega
    rw [if_pos h64] at hr
    by_cases h0 : n = 0
    · subst h0
      simp at hr
      obtain ⟨rfl, rfl⟩ := hr
      go_enter Tryd.func37, Tryd.ntmps37
      go_wp2_with fail
      refine (all_ven ao 0 c zs _ hn HV.out HT.out).mono ?_
      rintro e w1 ⟨rfl, g1⟩
      have HG := Lib.hid g1
      clear g1
      rw [hall]
      go_wp2
      go_ret2
      exact ⟨rfl, HG.out⟩
    · rw [if_neg h0] at hr
      obtain ⟨rfl, rfl⟩ := Prod.mk.inj hr
      have he : ((n : Int) == 0) = false := by simp; omega
      have HAT := Lib.hid (show ∀ j, j < n → vnB (zs.getD j vn0) = true from fun j hj => vnsB_at hall (by have := HZ.out; omega))
      clear hr
      go_enter Tryd.func37, Tryd.ntmps37
      go_wp2_with fail
      refine (all_ven ao n c zs _ hn HV.out HT.out).mono ?_
      rintro e w1 ⟨rfl, g1⟩
      have HG := Lib.hid g1
      clear g1
      rw [hall]
      go_wp2
      go_loopw [18, 4] (fun iv sv wr => ∃ k : Nat, k ≤ n ∧ iv = .int .i64 k ∧ sv = .int .i64 (shS zs k) ∧ Hid (Below w.heap.size w wr)) (fun i _ _ => n - (intOf i).toNat)
      case atStart => exact ⟨0, by omega, rfl, rfl, HG⟩
      case round =>
        obtain ⟨k, hk, rfl, rfl, hb⟩ := hrel
        have hsr := shS_rng (k := k) (fun j hj => HAT.out j (by omega))
        by_cases hlt : k < n
        · obtain ⟨b, rfl, hvc⟩ := (HV.out.below hb.out).2.resolve_left (by omega)
          obtain ⟨hbw, v0, v1, v2⟩ := hvc k hlt
          have HS := Lib.hid (show shS zs (k + 1) = shS zs k + (zs.getD k vn0).2.1 from rfl)
          have hvk := HAT.out k hlt
          clear hvc
          generalize zs.getD k vn0 = z at *
          obtain ⟨s, x, y⟩ := z
          obtain ⟨_, a0, a1, _, _⟩ := venB_ok hvk
          simp only at v0 v1 v2 HS a0 a1
          generalize hsk : shS zs k = sk at *
          have e1 : IntKind.i64.wrap (sk + x) = sk + x := IntWalk.i64_in _ (by omega)
          clear hvk
          go_wp2
          go_roundw
          case rel => exact ⟨k + 1, by omega, by go_num, by rw [HS.out], Lib.hid (hb.out.alloc hb.out.size _)⟩
          case measure => simp [intOf]; omega
        · obtain rfl : k = n := by omega
          have HD := Lib.hid (near_dr (shS zs k) k (by omega) (by omega) (by omega) (by omega))
          go_wp2_with fail
          refine (divRound_impl (shS zs k) k _).mono ?_
          rintro e w2 ⟨rfl, g2⟩
          have HG2 := Lib.hid (bseq hb.out g2)
          clear g2
          rw [HD.out]
          go_wp2
          go_ret2
          exact ⟨rfl, HG2.out⟩
end Go.Proofs.YthjimogeimigmaaDoor
