/- CodeName of spec and of impl: both answer the name of the code, or the empty text. -/
import Derived.Test.YtglbbpcdodlnmaaDoorIn
namespace Go.Proofs.YtglbbpcdodlnmaaDoor
open Go.ChangeShapes Go.WideShapes Go.ChangeAt Go.RowKit

theorem code_spec_no (n : Int) (w : World) (h : n < 0 ∨ 11 < n) :
    Calls Tryd.prog 22 #[.int .i64 n] w fun e w' => e = .returned (.string ⟨#[]⟩) ∧ Below w.heap.size w w' := by
  have hi : inI n 0 11 = false := by
    unfold inI
    rw [Bool.and_eq_false_iff]
    simp only [decide_eq_false_iff_not]
    omega
  go_enter Tryd.func22, Tryd.ntmps22
  go_wp2_with ((with_reducible refine (in_any _ _ _ _).mono ?_); rintro e w' ⟨rfl, rfl⟩)
  go_ret
  exact ⟨rfl, (Below.refl _ _).alloc (Nat.le_refl _) _⟩
theorem code_impl_no (n : Int) (w : World) (h : n < 0 ∨ 11 < n) :
    Calls Tryd.prog 23 #[.int .i64 n] w fun e w' => e = .returned (.string ⟨#[]⟩) ∧ Below w.heap.size w w' := by
  by_cases h0 : n < 0
  · go_enter Tryd.func23, Tryd.ntmps23
    go_wp2
    go_ret
    exact ⟨rfl, Below.refl _ _⟩
  · have h1 : 12 ≤ n := by omega
    go_enter Tryd.func23, Tryd.ntmps23
    go_wp2
    go_ret
    exact ⟨rfl, Below.refl _ _⟩
theorem in_lit (k : Int) (h0 : 0 ≤ k) (h1 : k ≤ 11) : inI k 0 11 = true := by simp [inI, h0, h1]
theorem code_spec_0 (w : World) : Calls Tryd.prog 22 #[.int .i64 0] w fun e w' => e = .returned (.string ⟨#[111, 107]⟩) ∧ Below w.heap.size w w' := by
  have hi := in_lit 0 (by omega) (by omega)
  go_enter Tryd.func22, Tryd.ntmps22
  go_wp2_with ((with_reducible refine (in_any _ _ _ _).mono ?_); rintro e w' ⟨rfl, rfl⟩)
  go_ret
  exact ⟨rfl, (Below.refl _ _).alloc (Nat.le_refl _) _⟩
theorem code_impl_0 (w : World) (hc : w.cell? ⟨0, 0, none⟩ = some (.string ⟨#[111, 107]⟩)) : Calls Tryd.prog 23 #[.int .i64 0] w fun e w' => e = .returned (.string ⟨#[111, 107]⟩) ∧ Below w.heap.size w w' := by
  go_enter Tryd.func23, Tryd.ntmps23
  go_wp2
  go_ret
  exact ⟨rfl, Below.refl _ _⟩
theorem code_spec_1 (w : World) : Calls Tryd.prog 22 #[.int .i64 1] w fun e w' => e = .returned (.string ⟨#[105, 110, 118, 97, 108, 105, 100]⟩) ∧ Below w.heap.size w w' := by
  have hi := in_lit 1 (by omega) (by omega)
  go_enter Tryd.func22, Tryd.ntmps22
  go_wp2_with ((with_reducible refine (in_any _ _ _ _).mono ?_); rintro e w' ⟨rfl, rfl⟩)
  go_ret
  exact ⟨rfl, (Below.refl _ _).alloc (Nat.le_refl _) _⟩
theorem code_impl_1 (w : World) (hc : w.cell? ⟨0, 1, none⟩ = some (.string ⟨#[105, 110, 118, 97, 108, 105, 100]⟩)) : Calls Tryd.prog 23 #[.int .i64 1] w fun e w' => e = .returned (.string ⟨#[105, 110, 118, 97, 108, 105, 100]⟩) ∧ Below w.heap.size w w' := by
  go_enter Tryd.func23, Tryd.ntmps23
  go_wp2
  go_ret
  exact ⟨rfl, Below.refl _ _⟩
theorem code_spec_2 (w : World) : Calls Tryd.prog 22 #[.int .i64 2] w fun e w' => e = .returned (.string ⟨#[114, 97, 110, 103, 101]⟩) ∧ Below w.heap.size w w' := by
  have hi := in_lit 2 (by omega) (by omega)
  go_enter Tryd.func22, Tryd.ntmps22
  go_wp2_with ((with_reducible refine (in_any _ _ _ _).mono ?_); rintro e w' ⟨rfl, rfl⟩)
  go_ret
  exact ⟨rfl, (Below.refl _ _).alloc (Nat.le_refl _) _⟩
theorem code_impl_2 (w : World) (hc : w.cell? ⟨0, 2, none⟩ = some (.string ⟨#[114, 97, 110, 103, 101]⟩)) : Calls Tryd.prog 23 #[.int .i64 2] w fun e w' => e = .returned (.string ⟨#[114, 97, 110, 103, 101]⟩) ∧ Below w.heap.size w w' := by
  go_enter Tryd.func23, Tryd.ntmps23
  go_wp2
  go_ret
  exact ⟨rfl, Below.refl _ _⟩
theorem code_spec_3 (w : World) : Calls Tryd.prog 22 #[.int .i64 3] w fun e w' => e = .returned (.string ⟨#[110, 111, 116, 45, 102, 111, 117, 110, 100]⟩) ∧ Below w.heap.size w w' := by
  have hi := in_lit 3 (by omega) (by omega)
  go_enter Tryd.func22, Tryd.ntmps22
  go_wp2_with ((with_reducible refine (in_any _ _ _ _).mono ?_); rintro e w' ⟨rfl, rfl⟩)
  go_ret
  exact ⟨rfl, (Below.refl _ _).alloc (Nat.le_refl _) _⟩
theorem code_impl_3 (w : World) (hc : w.cell? ⟨0, 3, none⟩ = some (.string ⟨#[110, 111, 116, 45, 102, 111, 117, 110, 100]⟩)) : Calls Tryd.prog 23 #[.int .i64 3] w fun e w' => e = .returned (.string ⟨#[110, 111, 116, 45, 102, 111, 117, 110, 100]⟩) ∧ Below w.heap.size w w' := by
  go_enter Tryd.func23, Tryd.ntmps23
  go_wp2
  go_ret
  exact ⟨rfl, Below.refl _ _⟩
theorem code_spec_4 (w : World) : Calls Tryd.prog 22 #[.int .i64 4] w fun e w' => e = .returned (.string ⟨#[101, 120, 105, 115, 116, 115]⟩) ∧ Below w.heap.size w w' := by
  have hi := in_lit 4 (by omega) (by omega)
  go_enter Tryd.func22, Tryd.ntmps22
  go_wp2_with ((with_reducible refine (in_any _ _ _ _).mono ?_); rintro e w' ⟨rfl, rfl⟩)
  go_ret
  exact ⟨rfl, (Below.refl _ _).alloc (Nat.le_refl _) _⟩
theorem code_impl_4 (w : World) (hc : w.cell? ⟨0, 4, none⟩ = some (.string ⟨#[101, 120, 105, 115, 116, 115]⟩)) : Calls Tryd.prog 23 #[.int .i64 4] w fun e w' => e = .returned (.string ⟨#[101, 120, 105, 115, 116, 115]⟩) ∧ Below w.heap.size w w' := by
  go_enter Tryd.func23, Tryd.ntmps23
  go_wp2
  go_ret
  exact ⟨rfl, Below.refl _ _⟩
theorem code_spec_5 (w : World) : Calls Tryd.prog 22 #[.int .i64 5] w fun e w' => e = .returned (.string ⟨#[102, 117, 108, 108]⟩) ∧ Below w.heap.size w w' := by
  have hi := in_lit 5 (by omega) (by omega)
  go_enter Tryd.func22, Tryd.ntmps22
  go_wp2_with ((with_reducible refine (in_any _ _ _ _).mono ?_); rintro e w' ⟨rfl, rfl⟩)
  go_ret
  exact ⟨rfl, (Below.refl _ _).alloc (Nat.le_refl _) _⟩
theorem code_impl_5 (w : World) (hc : w.cell? ⟨0, 5, none⟩ = some (.string ⟨#[102, 117, 108, 108]⟩)) : Calls Tryd.prog 23 #[.int .i64 5] w fun e w' => e = .returned (.string ⟨#[102, 117, 108, 108]⟩) ∧ Below w.heap.size w w' := by
  go_enter Tryd.func23, Tryd.ntmps23
  go_wp2
  go_ret
  exact ⟨rfl, Below.refl _ _⟩
theorem code_spec_6 (w : World) : Calls Tryd.prog 22 #[.int .i64 6] w fun e w' => e = .returned (.string ⟨#[115, 116, 97, 116, 101]⟩) ∧ Below w.heap.size w w' := by
  have hi := in_lit 6 (by omega) (by omega)
  go_enter Tryd.func22, Tryd.ntmps22
  go_wp2_with ((with_reducible refine (in_any _ _ _ _).mono ?_); rintro e w' ⟨rfl, rfl⟩)
  go_ret
  exact ⟨rfl, (Below.refl _ _).alloc (Nat.le_refl _) _⟩
theorem code_impl_6 (w : World) (hc : w.cell? ⟨0, 6, none⟩ = some (.string ⟨#[115, 116, 97, 116, 101]⟩)) : Calls Tryd.prog 23 #[.int .i64 6] w fun e w' => e = .returned (.string ⟨#[115, 116, 97, 116, 101]⟩) ∧ Below w.heap.size w w' := by
  go_enter Tryd.func23, Tryd.ntmps23
  go_wp2
  go_ret
  exact ⟨rfl, Below.refl _ _⟩
theorem code_spec_7 (w : World) : Calls Tryd.prog 22 #[.int .i64 7] w fun e w' => e = .returned (.string ⟨#[111, 114, 100, 101, 114]⟩) ∧ Below w.heap.size w w' := by
  have hi := in_lit 7 (by omega) (by omega)
  go_enter Tryd.func22, Tryd.ntmps22
  go_wp2_with ((with_reducible refine (in_any _ _ _ _).mono ?_); rintro e w' ⟨rfl, rfl⟩)
  go_ret
  exact ⟨rfl, (Below.refl _ _).alloc (Nat.le_refl _) _⟩
theorem code_impl_7 (w : World) (hc : w.cell? ⟨0, 7, none⟩ = some (.string ⟨#[111, 114, 100, 101, 114]⟩)) : Calls Tryd.prog 23 #[.int .i64 7] w fun e w' => e = .returned (.string ⟨#[111, 114, 100, 101, 114]⟩) ∧ Below w.heap.size w w' := by
  go_enter Tryd.func23, Tryd.ntmps23
  go_wp2
  go_ret
  exact ⟨rfl, Below.refl _ _⟩
theorem code_spec_8 (w : World) : Calls Tryd.prog 22 #[.int .i64 8] w fun e w' => e = .returned (.string ⟨#[115, 121, 110, 116, 97, 120]⟩) ∧ Below w.heap.size w w' := by
  have hi := in_lit 8 (by omega) (by omega)
  go_enter Tryd.func22, Tryd.ntmps22
  go_wp2_with ((with_reducible refine (in_any _ _ _ _).mono ?_); rintro e w' ⟨rfl, rfl⟩)
  go_ret
  exact ⟨rfl, (Below.refl _ _).alloc (Nat.le_refl _) _⟩
theorem code_impl_8 (w : World) (hc : w.cell? ⟨0, 8, none⟩ = some (.string ⟨#[115, 121, 110, 116, 97, 120]⟩)) : Calls Tryd.prog 23 #[.int .i64 8] w fun e w' => e = .returned (.string ⟨#[115, 121, 110, 116, 97, 120]⟩) ∧ Below w.heap.size w w' := by
  go_enter Tryd.func23, Tryd.ntmps23
  go_wp2
  go_ret
  exact ⟨rfl, Below.refl _ _⟩
theorem code_spec_9 (w : World) : Calls Tryd.prog 22 #[.int .i64 9] w fun e w' => e = .returned (.string ⟨#[102, 111, 114, 109, 97, 116]⟩) ∧ Below w.heap.size w w' := by
  have hi := in_lit 9 (by omega) (by omega)
  go_enter Tryd.func22, Tryd.ntmps22
  go_wp2_with ((with_reducible refine (in_any _ _ _ _).mono ?_); rintro e w' ⟨rfl, rfl⟩)
  go_ret
  exact ⟨rfl, (Below.refl _ _).alloc (Nat.le_refl _) _⟩
theorem code_impl_9 (w : World) (hc : w.cell? ⟨0, 9, none⟩ = some (.string ⟨#[102, 111, 114, 109, 97, 116]⟩)) : Calls Tryd.prog 23 #[.int .i64 9] w fun e w' => e = .returned (.string ⟨#[102, 111, 114, 109, 97, 116]⟩) ∧ Below w.heap.size w w' := by
  go_enter Tryd.func23, Tryd.ntmps23
  go_wp2
  go_ret
  exact ⟨rfl, Below.refl _ _⟩
theorem code_spec_10 (w : World) : Calls Tryd.prog 22 #[.int .i64 10] w fun e w' => e = .returned (.string ⟨#[99, 104, 101, 99, 107, 115, 117, 109]⟩) ∧ Below w.heap.size w w' := by
  have hi := in_lit 10 (by omega) (by omega)
  go_enter Tryd.func22, Tryd.ntmps22
  go_wp2_with ((with_reducible refine (in_any _ _ _ _).mono ?_); rintro e w' ⟨rfl, rfl⟩)
  go_ret
  exact ⟨rfl, (Below.refl _ _).alloc (Nat.le_refl _) _⟩
theorem code_impl_10 (w : World) (hc : w.cell? ⟨0, 10, none⟩ = some (.string ⟨#[99, 104, 101, 99, 107, 115, 117, 109]⟩)) : Calls Tryd.prog 23 #[.int .i64 10] w fun e w' => e = .returned (.string ⟨#[99, 104, 101, 99, 107, 115, 117, 109]⟩) ∧ Below w.heap.size w w' := by
  go_enter Tryd.func23, Tryd.ntmps23
  go_wp2
  go_ret
  exact ⟨rfl, Below.refl _ _⟩
theorem code_spec_11 (w : World) : Calls Tryd.prog 22 #[.int .i64 11] w fun e w' => e = .returned (.string ⟨#[116, 114, 117, 110, 99, 97, 116, 101, 100]⟩) ∧ Below w.heap.size w w' := by
  have hi := in_lit 11 (by omega) (by omega)
  go_enter Tryd.func22, Tryd.ntmps22
  go_wp2_with ((with_reducible refine (in_any _ _ _ _).mono ?_); rintro e w' ⟨rfl, rfl⟩)
  go_ret
  exact ⟨rfl, (Below.refl _ _).alloc (Nat.le_refl _) _⟩
theorem code_impl_11 (w : World) (hc : w.cell? ⟨0, 11, none⟩ = some (.string ⟨#[116, 114, 117, 110, 99, 97, 116, 101, 100]⟩)) : Calls Tryd.prog 23 #[.int .i64 11] w fun e w' => e = .returned (.string ⟨#[116, 114, 117, 110, 99, 97, 116, 101, 100]⟩) ∧ Below w.heap.size w w' := by
  go_enter Tryd.func23, Tryd.ntmps23
  go_wp2
  go_ret
  exact ⟨rfl, Below.refl _ _⟩
end Go.Proofs.YtglbbpcdodlnmaaDoor
