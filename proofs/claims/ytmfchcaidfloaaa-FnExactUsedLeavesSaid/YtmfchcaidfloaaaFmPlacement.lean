/- The marks that laws write into a slice of the struct Placement, and that they are held. -/
import Derived.Test.YtmfchcaidfloaaaLay
namespace Go.Proofs.Ytmfchcaidfloaaa
open Go.ChangeShapes Go.WideShapes Go.ChangeAt Go.RowKit
set_option linter.unusedVariables false
set_option linter.unusedSimpArgs false

/-- The mark in cell j of a slice that is marked from k on. -/
def mkPm (k j : Nat) : Value := if j % 5 = 0 then .int .i64 ((k + j : Nat) : Int) else if j % 5 = 1 then .int .i64 ((k + j : Nat) : Int) else if j % 5 = 2 then .int .i64 ((k + j : Nat) : Int) else if j % 5 = 3 then .int .i64 ((k + j : Nat) : Int) else .int .i64 ((k + j : Nat) : Int)
theorem mkPm_0 (k n : Nat) : mkPm k (n * 5) = .int .i64 ((k + (n * 5) : Nat) : Int) := by
  unfold mkPm
  rw [if_pos (by omega)]
theorem mkPm_1 (k n : Nat) : mkPm k (n * 5 + 1) = .int .i64 ((k + (n * 5 + 1) : Nat) : Int) := by
  unfold mkPm
  rw [if_neg (by omega), if_pos (by omega)]
theorem mkPm_2 (k n : Nat) : mkPm k (n * 5 + 2) = .int .i64 ((k + (n * 5 + 2) : Nat) : Int) := by
  unfold mkPm
  rw [if_neg (by omega), if_neg (by omega), if_pos (by omega)]
theorem mkPm_3 (k n : Nat) : mkPm k (n * 5 + 3) = .int .i64 ((k + (n * 5 + 3) : Nat) : Int) := by
  unfold mkPm
  rw [if_neg (by omega), if_neg (by omega), if_neg (by omega), if_pos (by omega)]
theorem mkPm_4 (k n : Nat) : mkPm k (n * 5 + 4) = .int .i64 ((k + (n * 5 + 4) : Nat) : Int) := by
  unfold mkPm
  rw [if_neg (by omega), if_neg (by omega), if_neg (by omega), if_neg (by omega)]
set_option maxRecDepth 100000 in
set_option maxHeartbeats 4000000 in
theorem markPms_lay (b n cap k0 : Nat) (w : World) (hn : n ≤ cap) (hn1 : n ≤ 1048576) (h1 : 1 ≤ k0) (hk : k0 ≤ 100000000) {i0 : Nat} {f0 : Nat → Value} (h : Lay w b (cap * 5) 45 i0 f0) :
    Calls Try.prog 17 #[.slice (some ⟨b, 0, none⟩) n cap, .int .i64 (k0 : Nat)] w fun e w' => e = .returned (.int .i64 ((k0 + n * 5 : Nat) : Int)) ∧ Lay w' b (cap * 5) 45 (n * 5) (mkPm k0) ∧ Btw b (b + 1) w w' := by
  have H0 := Lib.hid (h.less (i' := 0) (f' := mkPm k0) (by omega) (fun j hj => by omega))
  clear h
  go_enter Try.func17, Try.ntmps17
  go_wp2
  go_loopw [5, 1] (fun iv kv wr => ∃ k : Nat, k ≤ n ∧ iv = .int .i64 k ∧ kv = .int .i64 ((k0 + k * 5 : Nat) : Int) ∧ Hid (Lay wr b (cap * 5) 45 (k * 5) (mkPm k0)) ∧ Hid (Btw b (b + 1) w wr)) (fun i _ _ => n - (intOf i).toNat)
  case atStart => exact ⟨0, by omega, rfl, by simp, by simpa using H0, Lib.hid (Btw.refl _ _ _)⟩
  case round =>
    obtain ⟨k, hk', rfl, rfl, hl, hb⟩ := hrel
    by_cases hlt : k < n
    · obtain ⟨K, hK⟩ : ∃ K, k0 + k * 5 = K := ⟨_, rfl⟩
      have HK := Lib.hid hK
      rw [hK]
      have hK1 : 1 ≤ K := by omega
      have hK2 : K ≤ 110000000 := by omega
      clear hK
      have L0 := Lib.hid hl.out
      have B0 := Lib.hid hb.out
      obtain ⟨⟨p0_, c0_⟩, f0_⟩ := (L0.out).any (j := k * 5) (by omega)
      obtain ⟨⟨p1_, c1_⟩, f1_⟩ := (L0.out).any (j := k * 5 + 1) (by omega)
      obtain ⟨⟨p2_, c2_⟩, f2_⟩ := (L0.out).any (j := k * 5 + 2) (by omega)
      obtain ⟨⟨p3_, c3_⟩, f3_⟩ := (L0.out).any (j := k * 5 + 3) (by omega)
      obtain ⟨⟨p4_, c4_⟩, f4_⟩ := (L0.out).any (j := k * 5 + 4) (by omega)
      have hbw := (L0.out).lt
      have L0_ := Lib.hid (L0.out.set (.int .i64 ((K : Int))) (by omega) (by rw [mkPm_0]; exact val_int (by have := HK.out; omega)))
      have B0_ := Lib.hid (B0.out.set b (k * 5) (.int .i64 ((K : Int))) (Nat.le_refl _) (by omega))
      replace L0 := L0_
      replace B0 := B0_
      have y0_ : IntKind.i64.wrap ((K : Int) + 1) = (K : Int) + 1 := IntWalk.i64_in _ (by omega)
      have L1_ := Lib.hid (L0.out.set (.int .i64 ((K : Int) + 1)) (by omega) (by rw [mkPm_1]; exact val_int (by have := HK.out; omega)))
      have B1_ := Lib.hid (B0.out.set b (k * 5 + 1) (.int .i64 ((K : Int) + 1)) (Nat.le_refl _) (by omega))
      replace L0 := L1_
      replace B0 := B1_
      have y1_ : IntKind.i64.wrap ((K : Int) + 1 + 1) = (K : Int) + 1 + 1 := IntWalk.i64_in _ (by omega)
      have L2_ := Lib.hid (L0.out.set (.int .i64 ((K : Int) + 1 + 1)) (by omega) (by rw [mkPm_2]; exact val_int (by have := HK.out; omega)))
      have B2_ := Lib.hid (B0.out.set b (k * 5 + 2) (.int .i64 ((K : Int) + 1 + 1)) (Nat.le_refl _) (by omega))
      replace L0 := L2_
      replace B0 := B2_
      have y2_ : IntKind.i64.wrap ((K : Int) + 1 + 1 + 1) = (K : Int) + 1 + 1 + 1 := IntWalk.i64_in _ (by omega)
      have L3_ := Lib.hid (L0.out.set (.int .i64 ((K : Int) + 1 + 1 + 1)) (by omega) (by rw [mkPm_3]; exact val_int (by have := HK.out; omega)))
      have B3_ := Lib.hid (B0.out.set b (k * 5 + 3) (.int .i64 ((K : Int) + 1 + 1 + 1)) (Nat.le_refl _) (by omega))
      replace L0 := L3_
      replace B0 := B3_
      have y3_ : IntKind.i64.wrap ((K : Int) + 1 + 1 + 1 + 1) = (K : Int) + 1 + 1 + 1 + 1 := IntWalk.i64_in _ (by omega)
      have L4_ := Lib.hid (L0.out.set (.int .i64 ((K : Int) + 1 + 1 + 1 + 1)) (by omega) (by rw [mkPm_4]; exact val_int (by have := HK.out; omega)))
      have B4_ := Lib.hid (B0.out.set b (k * 5 + 4) (.int .i64 ((K : Int) + 1 + 1 + 1 + 1)) (Nat.le_refl _) (by omega))
      replace L0 := L4_
      replace B0 := B4_
      have y4_ : IntKind.i64.wrap ((K : Int) + 1 + 1 + 1 + 1 + 1) = (K : Int) + 1 + 1 + 1 + 1 + 1 := IntWalk.i64_in _ (by omega)
      go_wp2
      go_roundw
      case rel => exact ⟨k + 1, by omega, by go_num, val_int (by have := HK.out; omega), Lib.hid ((by simpa [Nat.add_mul, Nat.add_assoc] using L0.out)), B0⟩
      case measure => simp [intOf]; omega
    · obtain rfl : k = n := by omega
      go_wp2
      go_ret
      exact ⟨rfl, hl.out, hb.out⟩
end Go.Proofs.Ytmfchcaidfloaaa
