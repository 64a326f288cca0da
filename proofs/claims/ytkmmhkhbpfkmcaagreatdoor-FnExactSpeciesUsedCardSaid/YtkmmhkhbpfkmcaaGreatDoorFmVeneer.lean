/- The marks that laws write into a slice of the struct Veneer, and that they are held. -/
import Derived.Test.YtkmmhkhbpfkmcaaGreatDoorLay
namespace Go.Proofs.YtkmmhkhbpfkmcaaGreatDoor
open Go.ChangeShapes Go.WideShapes Go.ChangeAt Go.RowKit
set_option linter.unusedVariables false
set_option linter.unusedSimpArgs false

/-- The mark in cell j of a slice that is marked from k on. -/
def mkVn (k j : Nat) : Value := if j % 3 = 0 then .string (Mk.tb (Mk.mtL (k + j))) else if j % 3 = 1 then .int .i64 ((k + j : Nat) : Int) else .int .i64 ((k + j : Nat) : Int)
theorem mkVn_0 (k n : Nat) : mkVn k (n * 3) = .string (Mk.tb (Mk.mtL (k + (n * 3)))) := by
  unfold mkVn
  rw [if_pos (by omega)]
theorem mkVn_1 (k n : Nat) : mkVn k (n * 3 + 1) = .int .i64 ((k + (n * 3 + 1) : Nat) : Int) := by
  unfold mkVn
  rw [if_neg (by omega), if_pos (by omega)]
theorem mkVn_2 (k n : Nat) : mkVn k (n * 3 + 2) = .int .i64 ((k + (n * 3 + 2) : Nat) : Int) := by
  unfold mkVn
  rw [if_neg (by omega), if_neg (by omega)]
set_option maxRecDepth 100000 in
set_option maxHeartbeats 4000000 in
theorem markVns_lay (b n cap k0 : Nat) (w : World) (hn : n ≤ cap) (hn1 : n ≤ 1048576) (h1 : 1 ≤ k0) (hk : k0 ≤ 100000000) {i0 : Nat} {f0 : Nat → Value} (h : Lay w b (cap * 3) 54 i0 f0) :
    Calls Tryz.prog 41 #[.slice (some ⟨b, 0, none⟩) n cap, .int .i64 (k0 : Nat)] w fun e w' => e = .returned (.int .i64 ((k0 + n * 3 : Nat) : Int)) ∧ Lay w' b (cap * 3) 54 (n * 3) (mkVn k0) ∧ Btw b (b + 1) w w' := by
  have H0 := Lib.hid (h.less (i' := 0) (f' := mkVn k0) (by omega) (fun j hj => by omega))
  clear h
  go_enter Tryz.func41, Tryz.ntmps41
  go_wp2
  go_loopw [5, 1] (fun iv kv wr => ∃ k : Nat, k ≤ n ∧ iv = .int .i64 k ∧ kv = .int .i64 ((k0 + k * 3 : Nat) : Int) ∧ Hid (Lay wr b (cap * 3) 54 (k * 3) (mkVn k0)) ∧ Hid (Btw b (b + 1) w wr)) (fun i _ _ => n - (intOf i).toNat)
  case atStart => exact ⟨0, by omega, rfl, by simp, by simpa using H0, Lib.hid (Btw.refl _ _ _)⟩
  case round =>
    obtain ⟨k, hk', rfl, rfl, hl, hb⟩ := hrel
    by_cases hlt : k < n
    · obtain ⟨K, hK⟩ : ∃ K, k0 + k * 3 = K := ⟨_, rfl⟩
      have HK := Lib.hid hK
      rw [hK]
      have hK1 : 1 ≤ K := by omega
      have hK2 : K ≤ 104000000 := by omega
      clear hK
      have L0 := Lib.hid hl.out
      have B0 := Lib.hid hb.out
      go_wp2_with fail
      refine (Mk.markText_any K _ (by omega) (by omega)).mono ?_
      rintro e w1 ⟨rfl, g1⟩
      replace L0 := Lib.hid (L0.out.below g1)
      replace B0 := Lib.hid (B0.out.trans (Btw.of_below g1))
      clear g1
      obtain ⟨⟨p0_, c0_⟩, f0_⟩ := (L0.out).any (j := k * 3) (by omega)
      obtain ⟨⟨p1_, c1_⟩, f1_⟩ := (L0.out).any (j := k * 3 + 1) (by omega)
      obtain ⟨⟨p2_, c2_⟩, f2_⟩ := (L0.out).any (j := k * 3 + 2) (by omega)
      have hbw := (L0.out).lt
      have L0_ := Lib.hid (L0.out.set (.string (Mk.tb (Mk.mtL (K)))) (by omega) (by rw [mkVn_0]; congr 3; have := HK.out; omega))
      have B0_ := Lib.hid (B0.out.set b (k * 3) (.string (Mk.tb (Mk.mtL (K)))) (Nat.le_refl _) (by omega))
      replace L0 := L0_
      replace B0 := B0_
      have y0_ : IntKind.i64.wrap ((K : Int) + 1) = (K : Int) + 1 := IntWalk.i64_in _ (by omega)
      have L1_ := Lib.hid (L0.out.set (.int .i64 ((K : Int) + 1)) (by omega) (by rw [mkVn_1]; exact val_int (by have := HK.out; omega)))
      have B1_ := Lib.hid (B0.out.set b (k * 3 + 1) (.int .i64 ((K : Int) + 1)) (Nat.le_refl _) (by omega))
      replace L0 := L1_
      replace B0 := B1_
      have y1_ : IntKind.i64.wrap ((K : Int) + 1 + 1) = (K : Int) + 1 + 1 := IntWalk.i64_in _ (by omega)
      have L2_ := Lib.hid (L0.out.set (.int .i64 ((K : Int) + 1 + 1)) (by omega) (by rw [mkVn_2]; exact val_int (by have := HK.out; omega)))
      have B2_ := Lib.hid (B0.out.set b (k * 3 + 2) (.int .i64 ((K : Int) + 1 + 1)) (Nat.le_refl _) (by omega))
      replace L0 := L2_
      replace B0 := B2_
      have y2_ : IntKind.i64.wrap ((K : Int) + 1 + 1 + 1) = (K : Int) + 1 + 1 + 1 := IntWalk.i64_in _ (by omega)
      go_wp2
      go_roundw
      case rel => exact ⟨k + 1, by omega, by go_num, val_int (by have := HK.out; omega), Lib.hid ((by simpa [Nat.add_mul, Nat.add_assoc] using L0.out)), B0⟩
      case measure => simp [intOf]; omega
    · obtain rfl : k = n := by omega
      go_wp2
      go_ret
      exact ⟨rfl, hl.out, hb.out⟩
end Go.Proofs.YtkmmhkhbpfkmcaaGreatDoor
