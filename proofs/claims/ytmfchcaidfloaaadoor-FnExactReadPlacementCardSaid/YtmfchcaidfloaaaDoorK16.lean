/- Several texts in one: DigS, Bytes, Name. -/
import Derived.Test.YtmfchcaidfloaaaDoorProg
import Derived.Test.YtmfchcaidfloaaaDoorK1
import Derived.LoopTactic
namespace Go.Proofs.YtmfchcaidfloaaaDoor
open Go.ChangeShapes Go.WideShapes Go.ChangeAt Go.RowKit

theorem dig_spec (n : Int) (w : World) : Calls Tryd.prog 98 #[.int .u8 n] w fun e w' => e = .returned (.bool (digI n)) ∧ w = w' := by
  by_cases h1 : 48 ≤ n <;> by_cases h2 : n ≤ 57
  all_goals
    have hs : digI n = (decide (48 ≤ n) && decide (n ≤ 57)) := rfl
    simp only [h1, h2, decide_true, decide_false, Bool.and_true, Bool.and_false] at hs
    rw [hs]; clear hs
    go_enter Tryd.func98, Tryd.ntmps98
    go_wp2
    go_ret
    exact ⟨rfl, rfl⟩
end Go.Proofs.YtmfchcaidfloaaaDoor
namespace Go.Proofs.YtmfchcaidfloaaaDoor
open Go.ChangeShapes Go.WideShapes Go.ChangeAt Go.RowKit

theorem small_impl (n : Int) (w : World) : Calls Tryd.prog 106 #[.int .u8 n] w fun e w' => e = .returned (.bool (smallI n)) ∧ w = w' := by
  by_cases h1 : 97 ≤ n <;> by_cases h2 : n ≤ 122
  all_goals
    have hs : smallI n = (decide (97 ≤ n) && decide (n ≤ 122)) := rfl
    simp only [h1, h2, decide_true, decide_false, Bool.and_true, Bool.and_false] at hs
    rw [hs]; clear hs
    go_enter Tryd.func106, Tryd.ntmps106
    go_wp2
    go_ret
    exact ⟨rfl, rfl⟩
theorem small_spec (n : Int) (w : World) : Calls Tryd.prog 103 #[.int .u8 n] w fun e w' => e = .returned (.bool (smallI n)) ∧ w = w' := by
  by_cases h1 : 97 ≤ n <;> by_cases h2 : n ≤ 122
  all_goals
    have hs : smallI n = (decide (97 ≤ n) && decide (n ≤ 122)) := rfl
    simp only [h1, h2, decide_true, decide_false, Bool.and_true, Bool.and_false] at hs
    rw [hs]; clear hs
    go_enter Tryd.func103, Tryd.ntmps103
    go_wp2
    go_ret
    exact ⟨rfl, rfl⟩
theorem dig_impl (n : Int) (w : World) : Calls Tryd.prog 107 #[.int .u8 n] w fun e w' => e = .returned (.bool (digI n)) ∧ w = w' := by
  by_cases h1 : 48 ≤ n <;> by_cases h2 : n ≤ 57
  all_goals
    have hs : digI n = (decide (48 ≤ n) && decide (n ≤ 57)) := rfl
    simp only [h1, h2, decide_true, decide_false, Bool.and_true, Bool.and_false] at hs
    rw [hs]; clear hs
    go_enter Tryd.func107, Tryd.ntmps107
    go_wp2
    go_ret
    exact ⟨rfl, rfl⟩
end Go.Proofs.YtmfchcaidfloaaaDoor
namespace Go.Proofs.YtmfchcaidfloaaaDoor
open Go.ChangeShapes Go.WideShapes Go.ChangeAt Go.RowKit

def okC (c : UInt8) : Bool := smallI c.toNat || digI c.toNat
def headSmall (l : List UInt8) : Bool := match l with | [] => false | c :: _ => smallI c.toNat
def nameB (s : ByteArray) : Bool := decide (s.size ≤ 10) && headSmall s.data.toList && s.data.toList.all okC

theorem take_snoc (s : ByteArray) (k : Nat) (h : k < s.size) : s.data.toList.take (k + 1) = s.data.toList.take k ++ [s[k]] := by
  rw [List.take_succ_eq_append_getElem (by simpa using h)]; rfl
theorem head_eq (s : ByteArray) (h : 0 < s.size) : headSmall s.data.toList = smallI s[0].toNat := by
  have e := take_snoc s 0 h
  match hl : s.data.toList with
  | [] => have : s.data.toList.length = 0 := by rw [hl]; rfl
          have h2 : s.data.toList.length = s.size := by simp
          omega
  | c :: r => rw [hl] at e; simp at e; rw [← e]; rfl
theorem name_zero (s : ByteArray) (h : s.size = 0) : nameB s = false := by
  have : s.data.toList = [] := by apply List.eq_nil_of_length_eq_zero; simpa using h
  simp [nameB, headSmall, this]
theorem name_long (s : ByteArray) (h : ¬ s.size ≤ 10) : nameB s = false := by
  simp [nameB]; intro h'; exact absurd h' h
theorem name_head (s : ByteArray) (h : 0 < s.size) (hh : smallI s[0].toNat = false) : nameB s = false := by
  simp [nameB, head_eq s h, hh]
theorem name_bad (s : ByteArray) (k : Nat) (h : k < s.size) (hh : okC s[k] = false) : nameB s = false := by
  have hm : s[k] ∈ s.data.toList := by
    have : s[k] ∈ s.data.toList.take (k+1) := by rw [take_snoc s k h]; simp
    exact List.mem_of_mem_take this
  have : s.data.toList.all okC = false := by
    rw [List.all_eq_false]; exact ⟨s[k], hm, by simp [hh]⟩
  simp [nameB, this]
theorem name_good (s : ByteArray) (h : 0 < s.size) (h10 : s.size ≤ 10) (hh : smallI s[0].toNat = true) (k : Nat) (hk : s.size ≤ k) (ha : (s.data.toList.take k).all okC = true) : nameB s = true := by
  rw [List.take_of_length_le (by simpa using hk)] at ha
  simp [nameB, head_eq s h, hh, ha, h10]
theorem all_snoc (s : ByteArray) (k : Nat) (h : k < s.size) (ha : (s.data.toList.take k).all okC = true) (hk : okC s[k] = true) : (s.data.toList.take (k+1)).all okC = true := by
  rw [take_snoc s k h, List.all_append, ha]; simp [hk]

theorem nonempty_of (s : ByteArray) (h : 0 < s.size) : ¬ s.toList = [] := by
  rw [ByteArray.toList_eq]; intro e
  have h2 : s.data.toList.length = s.size := by simp
  rw [e] at h2; simp at h2; omega
theorem isEmpty_of (s : ByteArray) (h : 0 < s.size) : s.toList.isEmpty = false := by
  simpa using nonempty_of s h
theorem all_zero (s : ByteArray) : (s.data.toList.take 0).all okC = true := by simp
theorem all_one (s : ByteArray) (h : 0 < s.size) (hh : smallI s[0].toNat = true) : (s.data.toList.take 1).all okC = true :=
  all_snoc s 0 h (all_zero s) (by simp [okC, hh])
theorem ok_of {c : UInt8} {a b : Bool} (h1 : smallI c.toNat = a) (h2 : digI c.toNat = b) : okC c = (a || b) := by rw [okC, h1, h2]

set_option maxHeartbeats 400000 in
theorem name_impl (s : ByteArray) (w : World) (hs : s.size ≤ maxLen) :
    Calls Tryd.prog 78 #[.string s] w fun e w' => e = .returned (.bool (nameB s)) ∧ w = w' := by
  unfold maxLen at hs
  by_cases h0 : s.size = 0
  · rw [name_zero s h0]
    go_enter Tryd.func78, Tryd.ntmps78
    go_wp2
    go_ret
    exact ⟨rfl, rfl⟩
  by_cases h10 : s.size ≤ 10
  · have hp : 0 < s.size := by omega
    have e0 : ((s.size : Int) == 0) = false := by rw [beq_eq_false_iff_ne]; omega
    have e1 : decide (10 < (s.size : Int)) = false := by simp; omega
    clear h0
    cases hsm : smallI s[0].toNat with
    | false =>
      rw [name_head s hp hsm]
      go_enter Tryd.func78, Tryd.ntmps78
      go_wp2_with (first | ((with_reducible refine (small_impl _ _).mono ?_); rintro e w' ⟨rfl, rfl⟩))
      go_ret
      exact ⟨rfl, rfl⟩
    | true =>
      have HS := Lib.hid hsm
      go_enter Tryd.func78, Tryd.ntmps78
      go_wp2_with (first | ((with_reducible refine (small_impl _ _).mono ?_); rintro e w' ⟨rfl, rfl⟩))
      go_loop [3] (fun i => ∃ k : Nat, 1 ≤ k ∧ k ≤ s.size ∧ i = .int .i64 k ∧ Hid ((s.data.toList.take k).all okC = true)) (fun i => s.size - (intOf i).toNat)
      case atStart => exact ⟨1, by omega, by omega, rfl, Lib.hid (all_one s hp HS.out)⟩
      case round =>
        obtain ⟨k, hk1, hk2, rfl, ha⟩ := hrel
        by_cases hlt : k < s.size
        · cases hso : smallI s[k].toNat <;> cases hdo : digI s[k].toNat
          all_goals
            have HO := Lib.hid (ok_of hso hdo)
            go_wp2_with (first | ((with_reducible refine (small_impl _ _).mono ?_); rintro e w' ⟨rfl, rfl⟩) | ((with_reducible refine (dig_impl _ _).mono ?_); rintro e w' ⟨rfl, rfl⟩))
            first
            | (go_round
               case rel => exact ⟨k + 1, by omega, by omega, by go_num, Lib.hid (all_snoc s k hlt ha.out HO.out)⟩
               case measure => simp [intOf]; omega)
            | (go_ret
               exact ⟨ret_bool (name_bad s k hlt HO.out).symm, rfl⟩)
        · go_wp2
          go_ret
          exact ⟨ret_bool (name_good s hp h10 HS.out k (by omega) ha.out).symm, rfl⟩
  · rw [name_long s h10]
    have e0 : ((s.size : Int) == 0) = false := by rw [beq_eq_false_iff_ne]; omega
    go_enter Tryd.func78, Tryd.ntmps78
    go_wp2
    go_ret
    exact ⟨rfl, rfl⟩

set_option maxHeartbeats 400000 in
theorem name_l01 (s : ByteArray) (w : World) (hs : s.size ≤ maxLen) :
    Calls Tryd.prog 67 #[.string s] w fun e w' => e = .returned (.bool (nameB s)) ∧ w = w' := by
  unfold maxLen at hs
  by_cases h0 : s.size = 0
  · rw [name_zero s h0]
    obtain rfl : s = ByteArray.empty := by
      apply ByteArray.ext; apply Array.eq_empty_of_size_eq_zero; exact h0
    go_enter Tryd.func67, Tryd.ntmps67
    go_wp2
    go_ret
    exact ⟨rfl, rfl⟩
  by_cases h10 : s.size ≤ 10
  · have hp : 0 < s.size := by omega
    have en := nonempty_of s (by omega)
    have e0 := isEmpty_of s (by omega)
    have e1 : decide (10 < (s.size : Int)) = false := by simp; omega
    clear h0
    cases hsm : smallI s[0].toNat with
    | false =>
      rw [name_head s hp hsm]
      go_enter Tryd.func67, Tryd.ntmps67
      go_wp2_with (first | ((with_reducible refine (small_spec _ _).mono ?_); rintro e w' ⟨rfl, rfl⟩))
      go_ret
      exact ⟨rfl, rfl⟩
    | true =>
      have HS := Lib.hid hsm
      go_enter Tryd.func67, Tryd.ntmps67
      go_wp2_with (first | ((with_reducible refine (small_spec _ _).mono ?_); rintro e w' ⟨rfl, rfl⟩))
      go_loop [3] (fun i => ∃ k : Nat, k ≤ s.size ∧ i = .int .i64 k ∧ Hid ((s.data.toList.take k).all okC = true)) (fun i => s.size - (intOf i).toNat)
      case atStart => exact ⟨0, by omega, rfl, Lib.hid (all_zero s)⟩
      case round =>
        obtain ⟨k, hk2, rfl, ha⟩ := hrel
        by_cases hlt : k < s.size
        · cases hso : smallI s[k].toNat <;> cases hdo : digI s[k].toNat
          all_goals
            have HO := Lib.hid (ok_of hso hdo)
            go_wp2_with (first | ((with_reducible refine (small_spec _ _).mono ?_); rintro e w' ⟨rfl, rfl⟩) | ((with_reducible refine (dig_spec _ _).mono ?_); rintro e w' ⟨rfl, rfl⟩))
            first
            | (go_round
               case rel => exact ⟨k + 1, by omega, by go_num, Lib.hid (all_snoc s k hlt ha.out HO.out)⟩
               case measure => simp [intOf]; omega)
            | (go_ret
               exact ⟨ret_bool (name_bad s k hlt HO.out).symm, rfl⟩)
        · go_wp2
          go_ret
          exact ⟨ret_bool (name_good s hp h10 HS.out k (by omega) ha.out).symm, rfl⟩
  · rw [name_long s h10]
    have en := nonempty_of s (by omega)
    have e0 := isEmpty_of s (by omega)
    go_enter Tryd.func67, Tryd.ntmps67
    go_wp2
    go_ret
    exact ⟨rfl, rfl⟩

end Go.Proofs.YtmfchcaidfloaaaDoor
