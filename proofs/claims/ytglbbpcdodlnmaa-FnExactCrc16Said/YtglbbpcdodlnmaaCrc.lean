/- Crc16 of spec and of impl: both fold the same step over the bytes. -/
import Derived.Test.YtglbbpcdodlnmaaBytes
import Derived.LoopTactic
namespace Go.Proofs.Ytglbbpcdodlnmaa
open Go.ChangeShapes Go.WideShapes Go.ChangeAt Go.RowKit

def dbl (x : Int) : Int := if 65535 < wrap64 (x * 2) then bits .xor .i64 (bits .and .i64 (wrap64 (x * 2)) 65535) 4129 else wrap64 (x * 2)
def dblN : Nat → Int → Int
  | 0, x => x
  | n + 1, x => dbl (dblN n x)
def crcB (x : Int) (c : UInt8) : Int := dblN 8 (bits .xor .i64 x (c.toNat * 256))
def crcL (x : Int) (l : List UInt8) : Int := l.foldl crcB x

theorem take_snocC (s : ByteArray) (k : Nat) (h : k < s.size) : s.data.toList.take (k + 1) = s.data.toList.take k ++ [s[k]] := by
  rw [List.take_succ_eq_append_getElem (by simpa using h)]; rfl
theorem crcL_snoc (x : Int) (s : ByteArray) (k : Nat) (h : k < s.size) : crcL x (s.data.toList.take (k + 1)) = crcB (crcL x (s.data.toList.take k)) s[k] := by
  rw [take_snocC s k h, crcL, List.foldl_append]; rfl
theorem dbl_pos (x : Int) (h : 65535 < wrap64 (x * 2)) : dbl x = bits .xor .i64 (bits .and .i64 (wrap64 (x * 2)) 65535) 4129 := if_pos h
theorem dbl_neg (x : Int) (h : ¬ 65535 < wrap64 (x * 2)) : dbl x = wrap64 (x * 2) := if_neg h

set_option maxRecDepth 100000 in
set_option maxHeartbeats 1000000 in
theorem crc_l01 (s : ByteArray) (x : Int) (w : World) (hs : s.size ≤ maxLen) :
    Calls Try.prog 22 #[.string s, .int .i64 x] w fun e w' => e = .returned (.int .i64 (crcL x s.data.toList)) ∧ w = w' := by
  unfold maxLen at hs
  go_enter Try.func22, Try.ntmps22
  go_wp2
  go_loop [1, 5] (fun c i => ∃ k : Nat, k ≤ s.size ∧ i = .int .i64 k ∧ c = .int .i64 (crcL x (s.data.toList.take k))) (fun _ i => s.size - (intOf i).toNat)
  case atStart => exact ⟨0, Nat.zero_le _, rfl, rfl⟩
  case round =>
    obtain ⟨k, hk, rfl, rfl⟩ := hrel
    by_cases hlt : k < s.size
    · have HS := Lib.hid (crcL_snoc x s k hlt)
      generalize hy : crcL x (s.data.toList.take k) = y at *
      have hc : (s[k].toNat : Int) < 256 := by have := s[k].toNat_lt; omega
      clear hy
      go_wp2
      go_loop [1, 6] (fun c i => ∃ j : Nat, j ≤ 8 ∧ i = .int .i64 j ∧ c = .int .i64 (dblN j (bits .xor .i64 y (s[k].toNat * 256)))) (fun _ i => 8 - (intOf i).toNat)
      case atStart => exact ⟨0, by omega, rfl, rfl⟩
      case round =>
        obtain ⟨j, hj, rfl, rfl⟩ := hrel
        by_cases hj8 : j < 8
        · have HD : Hid (dblN (j + 1) (bits .xor .i64 y (s[k].toNat * 256)) = dbl (dblN j (bits .xor .i64 y (s[k].toNat * 256)))) := Lib.hid rfl
          generalize dblN j (bits .xor .i64 y (s[k].toNat * 256)) = z at *
          by_cases hz : 65535 < wrap64 (z * 2)
          · have HZ := Lib.hid (dbl_pos z hz)
            go_wp2
            go_round
            case rel => exact ⟨j + 1, by omega, by go_num, val_int (by rw [HD.out, HZ.out])⟩
            case measure => simp [intOf]; omega
          · have HZ := Lib.hid (dbl_neg z hz)
            go_wp2
            go_round
            case rel => exact ⟨j + 1, by omega, by go_num, val_int (by rw [HD.out, HZ.out])⟩
            case measure => simp [intOf]; omega
        · obtain rfl : j = 8 := by omega
          go_wp2
          go_round
          case rel => exact ⟨k + 1, by omega, by go_num, val_int (by rw [HS.out]; rfl)⟩
          case measure => simp [intOf]; omega
    · go_wp2
      go_ret
      exact ⟨ret_int (by rw [List.take_of_length_le (by simp; omega)]), rfl⟩

def crcI (x : Int) (s : ByteArray) : Int := if inI x 0 65535 then crcL x s.data.toList else 0
theorem crc_spec (s : ByteArray) (x : Int) (w : World) (hs : s.size ≤ maxLen) :
    Calls Try.prog 10 #[.string s, .int .i64 x] w fun e w' => e = .returned (.int .i64 (crcI x s)) ∧ w = w' := by
  unfold crcI
  cases h : inI x 0 65535
  all_goals
    go_enter Try.func10, Try.ntmps10
    go_wp2_with (first | ((with_reducible refine (in_any _ _ _ _).mono ?_); rintro e w' ⟨rfl, rfl⟩) | ((with_reducible refine (crc_l01 _ _ _ hs).mono ?_); rintro e w' ⟨rfl, rfl⟩))
    go_ret
    exact ⟨rfl, rfl⟩

set_option maxRecDepth 100000 in
set_option maxHeartbeats 1000000 in
theorem crc_in (s : ByteArray) (x : Int) (w : World) (hs : s.size ≤ maxLen) (h0 : 0 ≤ x) (h1 : x ≤ 65535) :
    Calls Try.prog 11 #[.string s, .int .i64 x] w fun e w' => e = .returned (.int .i64 (crcL x s.data.toList)) ∧ w = w' := by
  unfold maxLen at hs
  go_enter Try.func11, Try.ntmps11
  go_wp2
  go_loop [5, 16] (fun c i => ∃ k : Nat, k ≤ s.size ∧ i = .int .i64 k ∧ c = .int .i64 (crcL x (s.data.toList.take k))) (fun _ i => s.size - (intOf i).toNat)
  case atStart => exact ⟨0, Nat.zero_le _, rfl, rfl⟩
  case round =>
    obtain ⟨k, hk, rfl, rfl⟩ := hrel
    by_cases hlt : k < s.size
    · have HS := Lib.hid (crcL_snoc x s k hlt)
      generalize hy : crcL x (s.data.toList.take k) = y at *
      have hc : (s[k].toNat : Int) < 256 := by have := s[k].toNat_lt; omega
      clear hy
      go_wp2
      go_loop [5, 26] (fun c i => ∃ j : Nat, j ≤ 8 ∧ i = .int .i64 j ∧ c = .int .i64 (dblN j (bits .xor .i64 y (s[k].toNat * 256)))) (fun _ i => 8 - (intOf i).toNat)
      case atStart => exact ⟨0, by omega, rfl, rfl⟩
      case round =>
        obtain ⟨j, hj, rfl, rfl⟩ := hrel
        by_cases hj8 : j < 8
        · have HD : Hid (dblN (j + 1) (bits .xor .i64 y (s[k].toNat * 256)) = dbl (dblN j (bits .xor .i64 y (s[k].toNat * 256)))) := Lib.hid rfl
          generalize dblN j (bits .xor .i64 y (s[k].toNat * 256)) = z at *
          by_cases hz : 65535 < wrap64 (z * 2)
          · have HZ := Lib.hid (dbl_pos z hz)
            go_wp2
            go_round
            case rel => exact ⟨j + 1, by omega, by go_num, val_int (by rw [HD.out, HZ.out])⟩
            case measure => simp [intOf]; omega
          · have HZ := Lib.hid (dbl_neg z hz)
            go_wp2
            go_round
            case rel => exact ⟨j + 1, by omega, by go_num, val_int (by rw [HD.out, HZ.out])⟩
            case measure => simp [intOf]; omega
        · obtain rfl : j = 8 := by omega
          go_wp2
          go_round
          case rel => exact ⟨k + 1, by omega, by go_num, val_int (by rw [HS.out]; rfl)⟩
          case measure => simp [intOf]; omega
    · go_wp2
      go_ret
      exact ⟨ret_int (by rw [List.take_of_length_le (by simp; omega)]), rfl⟩

theorem crc_impl (s : ByteArray) (x : Int) (w : World) (hs : s.size ≤ maxLen) :
    Calls Try.prog 11 #[.string s, .int .i64 x] w fun e w' => e = .returned (.int .i64 (crcI x s)) ∧ w = w' := by
  unfold crcI
  cases h : inI x 0 65535 with
  | true =>
    have hr := h
    simp only [inI, Bool.and_eq_true, decide_eq_true_eq] at hr
    exact crc_in s x w hs hr.1 hr.2
  | false =>
    have hr := h
    simp only [inI, Bool.and_eq_false_iff, decide_eq_false_iff_not] at hr
    by_cases h0 : x < 0
    · go_enter Try.func11, Try.ntmps11
      go_wp2
      go_ret
      exact ⟨rfl, rfl⟩
    · have h1 : 65535 < x := by omega
      go_enter Try.func11, Try.ntmps11
      go_wp2
      go_ret
      exact ⟨rfl, rfl⟩
end Go.Proofs.Ytglbbpcdodlnmaa
