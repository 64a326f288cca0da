/- Contracts of impl's least, greatest and allWithin over a slice of int64 whose cells are known. -/
import Derived.Test.YtjhmpmaademdcaaProg
import Derived.Test.YtjhmpmaademdcaaK1
import Derived.LoopTactic
namespace Go.Proofs.Ytjhmpmaademdcaa
open Go.ChangeShapes Go.WideShapes Go.ChangeAt Go.RowKit

def loI (x : Int) (l : List Int) : Int := l.foldl min x
def hiI (x : Int) (l : List Int) : Int := l.foldl max x
def wiI (m : Int) (l : List Int) : Bool := l.all fun x => decide (-m ≤ x) && decide (x ≤ m)

theorem loI_snoc (x : Int) (zs : List Int) (k : Nat) (h : k < zs.length) : loI x (zs.take (k + 1)) = min (loI x (zs.take k)) (zs.getD k 0) := by
  unfold loI
  rw [List.take_add_one, List.foldl_append]
  simp [List.getD, List.getElem?_eq_getElem h]
theorem hiI_snoc (x : Int) (zs : List Int) (k : Nat) (h : k < zs.length) : hiI x (zs.take (k + 1)) = max (hiI x (zs.take k)) (zs.getD k 0) := by
  unfold hiI
  rw [List.take_add_one, List.foldl_append]
  simp [List.getD, List.getElem?_eq_getElem h]

theorem loI_ge (m : Int) : ∀ (l : List Int) (x : Int), m ≤ loI x l ↔ m ≤ x ∧ ∀ y ∈ l, m ≤ y
  | [], x => by simp [loI]
  | z :: l, x => by
    have := loI_ge m l (min x z)
    unfold loI at this ⊢
    rw [List.foldl_cons, this]
    simp only [List.mem_cons, forall_eq_or_imp]
    rw [Int.le_min]
    exact and_assoc
theorem hiI_le (m : Int) : ∀ (l : List Int) (x : Int), hiI x l ≤ m ↔ x ≤ m ∧ ∀ y ∈ l, y ≤ m
  | [], x => by simp [hiI]
  | z :: l, x => by
    have := hiI_le m l (max x z)
    unfold hiI at this ⊢
    rw [List.foldl_cons, this]
    simp only [List.mem_cons, forall_eq_or_imp]
    rw [Int.max_le]
    exact and_assoc
theorem wiI_eq (m : Int) (hm : 0 ≤ m) (l : List Int) : (decide (-m ≤ loI 0 l) && decide (hiI 0 l ≤ m)) = wiI m l := by
  rw [Bool.eq_iff_iff]
  simp only [Bool.and_eq_true, decide_eq_true_eq, wiI, List.all_eq_true]
  rw [loI_ge, hiI_le]
  constructor
  · rintro ⟨⟨_, h1⟩, ⟨_, h2⟩⟩ y hy; exact ⟨h1 y hy, h2 y hy⟩
  · intro h; exact ⟨⟨by omega, fun y hy => (h y hy).1⟩, ⟨hm, fun y hy => (h y hy).2⟩⟩

set_option maxHeartbeats 400000 in
theorem least_any (x : Int) (b off len cap : Nat) (zs : List Int) (w : World) (hz : len = zs.length) (hbig : len ≤ 9223372036854775807)
    (hc : ∀ j, j < zs.length → w.cell? ⟨b, off + j, none⟩ = some (.int .i64 (zs.getD j 0))) :
    Calls Try.prog 118 #[.int .i64 x, .slice (some ⟨b, off, none⟩) len cap] w fun e w' => e = .returned (.int .i64 (loI x zs)) ∧ w = w' := by
  have HC := Lib.hid hc
  have HZ := Lib.hid hz
  clear hc hz
  go_enter Try.func118, Try.ntmps118
  go_wp2
  go_loop [0, 9] (fun t i => ∃ k : Nat, k ≤ len ∧ i = .int .i64 k ∧ t = .int .i64 (loI x (zs.take k))) (fun _ i => len - (intOf i).toNat)
  case atStart => exact ⟨0, Nat.zero_le _, rfl, rfl⟩
  case round =>
    obtain ⟨k, hk, rfl, rfl⟩ := hrel
    by_cases hlt : k < len
    · have hcell : w.cell? ⟨b, off + k, none⟩ = some (.int .i64 (zs.getD k 0)) := HC.out k (by have := HZ.out; omega)
      have HS := Lib.hid (loI_snoc x zs k (by have := HZ.out; omega))
      generalize zs.getD k 0 = y at *
      by_cases hy : y < loI x (zs.take k)
      all_goals
        go_wp2
        go_round
        case rel => exact ⟨k + 1, by omega, by go_num, val_int (by rw [HS.out]; omega)⟩
        case measure => simp [intOf]; omega
    · go_wp2
      go_ret
      exact ⟨ret_int (by rw [List.take_of_length_le (by have := HZ.out; omega)]), rfl⟩

set_option maxHeartbeats 400000 in
theorem greatest_any (x : Int) (b off len cap : Nat) (zs : List Int) (w : World) (hz : len = zs.length) (hbig : len ≤ 9223372036854775807)
    (hc : ∀ j, j < zs.length → w.cell? ⟨b, off + j, none⟩ = some (.int .i64 (zs.getD j 0))) :
    Calls Try.prog 162 #[.int .i64 x, .slice (some ⟨b, off, none⟩) len cap] w fun e w' => e = .returned (.int .i64 (hiI x zs)) ∧ w = w' := by
  have HC := Lib.hid hc
  have HZ := Lib.hid hz
  clear hc hz
  go_enter Try.func162, Try.ntmps162
  go_wp2
  go_loop [0, 9] (fun t i => ∃ k : Nat, k ≤ len ∧ i = .int .i64 k ∧ t = .int .i64 (hiI x (zs.take k))) (fun _ i => len - (intOf i).toNat)
  case atStart => exact ⟨0, Nat.zero_le _, rfl, rfl⟩
  case round =>
    obtain ⟨k, hk, rfl, rfl⟩ := hrel
    by_cases hlt : k < len
    · have hcell : w.cell? ⟨b, off + k, none⟩ = some (.int .i64 (zs.getD k 0)) := HC.out k (by have := HZ.out; omega)
      have HS := Lib.hid (hiI_snoc x zs k (by have := HZ.out; omega))
      generalize zs.getD k 0 = y at *
      by_cases hy : hiI x (zs.take k) < y
      all_goals
        go_wp2
        go_round
        case rel => exact ⟨k + 1, by omega, by go_num, val_int (by rw [HS.out]; omega)⟩
        case measure => simp [intOf]; omega
    · go_wp2
      go_ret
      exact ⟨ret_int (by rw [List.take_of_length_le (by have := HZ.out; omega)]), rfl⟩

theorem allWithin_any (m : Int) (hm0 : 0 ≤ m) (hm1 : m ≤ 1000000000000) (b off len cap : Nat) (zs : List Int) (w : World) (hz : len = zs.length) (hbig : len ≤ 9223372036854775807)
    (hc : ∀ j, j < zs.length → w.cell? ⟨b, off + j, none⟩ = some (.int .i64 (zs.getD j 0))) :
    Calls Try.prog 108 #[.int .i64 m, .slice (some ⟨b, off, none⟩) len cap] w fun e w' => e = .returned (.bool (wiI m zs)) ∧ w = w' := by
  rw [← wiI_eq m hm0 zs]
  have HC := Lib.hid hc
  have HZ := Lib.hid hz
  clear hc hz
  by_cases h1 : -m ≤ loI 0 zs <;> by_cases h2 : hiI 0 zs ≤ m
  all_goals
    simp only [h1, h2, decide_true, decide_false, Bool.and_true, Bool.and_false]
    go_enter Try.func108, Try.ntmps108
    go_wp2_with (first | ((with_reducible refine (least_any _ _ _ _ _ _ _ HZ.out hbig HC.out).mono ?_); rintro e w' ⟨rfl, rfl⟩) | ((with_reducible refine (greatest_any _ _ _ _ _ _ _ HZ.out hbig HC.out).mono ?_); rintro e w' ⟨rfl, rfl⟩))
    go_ret
    first | exact ⟨rfl, rfl⟩ | exact ⟨ret_bool (by simp [h2]), rfl⟩
end Go.Proofs.Ytjhmpmaademdcaa
