/- The mean shade: spec and impl. -/
import Derived.Test.YthjimogeimigmaaDoorVen8
import Derived.Test.YthjimogeimigmaaDoorDivSpec
import Derived.Test.YthjimogeimigmaaDoorDivImpl
namespace Go.Proofs.YthjimogeimigmaaDoor
open Seq2 Go.ChangeShapes Go.WideShapes Go.ChangeAt Go.RowKit
set_option linter.unusedVariables false
set_option linter.unusedSimpArgs false

/-- The sum of the first shades. -/
def shS (zs : List Vn) : Nat → Int
  | 0 => 0
  | k + 1 => shS zs k + (zs.getD k vn0).2.1
def mnR (zs : List Vn) : Int × Int := if vnsB zs then (if zs.length ≤ 64 then (if zs.length = 0 then (0, 6) else (nearI (shS zs zs.length) zs.length, 0)) else (0, 5)) else (0, 1)
theorem shS_rng {zs : List Vn} {k : Nat} (h : ∀ j, j < k → vnB (zs.getD j vn0) = true) : 0 ≤ shS zs k ∧ shS zs k ≤ 100 * (k : Int) := by
  induction k with
  | zero => simp [shS]
  | succ k ih =>
    have h1 := ih (fun j hj => h j (by omega))
    obtain ⟨_, a0, a1, _, _⟩ := venB_ok (h k (by omega))
    simp only [shS]
    omega
theorem vnsB_at {zs : List Vn} (h : vnsB zs = true) {j : Nat} (hj : j < zs.length) : vnB (zs.getD j vn0) = true := by
  unfold vnsB at h
  rw [List.all_eq_true] at h
  rw [List.getD_eq_getElem?_getD, List.getElem?_eq_getElem hj]
  exact h _ (List.getElem_mem hj)
set_option maxRecDepth 100000 in
set_option maxHeartbeats 8000000 in
theorem mean_spec (ao : Option Addr) (n c : Nat) (zs : List Vn) (w : World) (hn : n ≤ 1048576) (hv : VL w ao n zs) : Calls Tryd.prog 35 #[.slice ao n c] w fun e w' => e = .returned (.tuple #[.int .i64 ((mnR zs).1), .int .i64 ((mnR zs).2)]) ∧ Below w.heap.size w w' := by
  have HV := Lib.hid hv
  have HZ := Lib.hid hv.1
  clear hv
  obtain ⟨R, hR⟩ : ∃ R, mnR zs = R := ⟨_, rfl⟩
  have HR := Lib.hid hR
  rw [hR]
  clear hR
  obtain ⟨r0, r1⟩ := R
  go_enter Tryd.func35, Tryd.ntmps35
  go_wp2
  go_loopw [5, 4] (fun iv sv wr => ∃ k : Nat, k ≤ n ∧ iv = .int .i64 k ∧ sv = .int .i64 (shS zs k) ∧ Hid (∀ j, j < k → vnB (zs.getD j vn0) = true) ∧ Hid (Below w.heap.size w wr)) (fun i _ _ => n - (intOf i).toNat)
  case atStart => exact ⟨0, by omega, rfl, rfl, Lib.hid (fun j hj => absurd hj (by omega)), Lib.hid (Below.refl _ _)⟩
  case round =>
    obtain ⟨k, hk, rfl, rfl, hi, hb⟩ := hrel
    have hsr := shS_rng hi.out
    by_cases hlt : k < n
    · obtain ⟨b, rfl, hvc⟩ := (HV.out.below hb.out).2.resolve_left (by omega)
      have hvk := hvc k hlt
      have HVK := Lib.hid hvk
      have hbw := hvk.1
      have HE := Lib.hid (show vnB (zs.getD k vn0) = venB (zs.getD k vn0).1 (zs.getD k vn0).2.1 (zs.getD k vn0).2.2 from rfl)
      have HS := Lib.hid (show shS zs (k + 1) = shS zs k + (zs.getD k vn0).2.1 from rfl)
      clear hvc hvk
      obtain ⟨z, hz⟩ : ∃ z, zs.getD k vn0 = z := ⟨_, rfl⟩
      have HZK := Lib.hid hz
      rw [hz] at HE HVK HS
      clear hz
      obtain ⟨s, x, y⟩ := z
      generalize hsk : shS zs k = sk at *
      go_wp2_with fail
      refine (ok_ven b (k * 3) s x y _ HVK.out).mono ?_
      rintro e w1 ⟨rfl, g1⟩
      have HG := Lib.hid (hb.out.trans (g1.mono hb.out.size))
      obtain ⟨hbw1, v0, v1, v2⟩ := HVK.out.below g1
      clear g1
      cases hs : venB s x y with
      | false =>
        have HRR := Lib.hid (HR.out.symm.trans (show mnR zs = (0, 1) by unfold mnR; rw [vnsB_no (zs := zs) (by have := HZ.out; omega) (show vnB (zs.getD k vn0) = false by rw [HZK.out]; exact HE.out.trans hs)]; rfl))
        obtain ⟨rfl, rfl⟩ := Prod.mk.inj HRR.out
        go_wp2
        go_ret2
        exact ⟨rfl, HG.out⟩
      | true =>
        obtain ⟨_, a0, a1, _, _⟩ := venB_ok hs
        have e1 : IntKind.i64.wrap (sk + x) = sk + x := IntWalk.i64_in _ (by omega)
        have HI := Lib.hid (show ∀ j, j < k + 1 → vnB (zs.getD j vn0) = true from fun j hj => (Nat.lt_succ_iff_lt_or_eq.1 hj).elim (hi.out j) (fun e => by subst e; rw [HZK.out]; exact HE.out.trans hs))
        go_wp2
        go_roundw
        case rel => exact ⟨k + 1, by omega, by go_num, by rw [HS.out], HI, HG⟩
        case measure => simp [intOf]; omega
    · obtain rfl : k = n := by omega
      have hall := vnsB_yes (zs := zs) (by rw [← HZ.out]; exact hi.out)
      have HRR := Lib.hid (HR.out.symm.trans (show mnR zs = if k ≤ 64 then (if k = 0 then (0, 6) else (nearI (shS zs k) k, 0)) else (0, 5) by unfold mnR; rw [hall, ← HZ.out]; rfl))
      clear hall
      by_cases h64 : k ≤ 64
      · have hd : decide ((64 : Int) < (k : Int)) = false := by simp; omega
        by_cases h0 : k = 0
        · subst h0
          have hr := HRR.out
          simp at hr
          obtain ⟨rfl, rfl⟩ := hr
          go_wp2
          go_ret2
          exact ⟨rfl, hb.out⟩
        · have hr := HRR.out
          rw [if_pos h64, if_neg h0] at hr
          obtain ⟨rfl, rfl⟩ := Prod.mk.inj hr
          have he : ((k : Int) == 0) = false := by simp; omega
          clear hr
          go_wp2_with fail
          refine (l01Div_any (shS zs k) k _ (by omega) (by omega) (by omega) (by omega) (by omega)).mono ?_
          rintro e w1 ⟨rfl, rfl⟩
          go_wp2
          go_ret2
          exact ⟨rfl, hb.out⟩
      · have hd : decide ((64 : Int) < (k : Int)) = true := by simp; omega
        have hr := HRR.out
        rw [if_neg h64] at hr
        obtain ⟨rfl, rfl⟩ := Prod.mk.inj hr
        clear hr
        go_wp2
        go_ret2
        exact ⟨rfl, hb.out⟩
end Go.Proofs.YthjimogeimigmaaDoor
