/- The facts of FnBasics on numbers and texts. -/
import Derived.Test.YtglbbpcdodlnmaaDoorBlendMath
import Derived.Test.YtglbbpcdodlnmaaDoorRootMath
import Derived.Test.YtglbbpcdodlnmaaDoorReadSpec
namespace Go.Proofs.YtglbbpcdodlnmaaDoor
open Go.ChangeShapes Go.WideShapes Go.ChangeAt Go.RowKit

theorem itoa_nocomma (n : Int) : (44 : UInt8) ∉ Lib.itoa n := by
  intro h
  unfold Lib.itoa at h
  have hd : ∀ m : Nat, (44 : UInt8) ∉ Lib.decDigits m := fun m hm => by
    have := List.all_eq_true.1 (val_dec m).2.1 44 hm
    simp [isD] at this
  split at h
  · rcases List.mem_cons.1 h with e | e
    · simp at e
    · exact hd _ e
  · exact hd _ h
theorem spl_join : ∀ (x : List UInt8) (r : List (List UInt8)), (∀ p ∈ x :: r, (44 : UInt8) ∉ p) → spl 44 (Lib.join (x :: r) [44]) = x :: r
  | x, [], h => by rw [Lib.join_one, spl_last 44 x (h x (by simp))]
  | x, y :: r, h => by
    have e : Lib.join (x :: y :: r) [44] = x ++ 44 :: Lib.join (y :: r) [44] := by
      rw [Lib.join_cons, Lib.join_cons]
      simp [Lib.joinTail]
    rw [e, spl_first 44 x _ (h x (by simp)), spl_join y r (fun p hp => h p (by simp [List.mem_cons.1 hp]))]
theorem spl_jn (zs : List Int) (h : zs ≠ []) : spl 44 (jn zs) = zs.map Lib.itoa := by
  cases zs with
  | nil => exact absurd rfl h
  | cons z zs =>
    unfold jn
    rw [List.map_cons]
    exact spl_join _ _ (fun p hp => by
      rcases List.mem_cons.1 hp with e | e
      · subst e; exact itoa_nocomma _
      · obtain ⟨m, _, rfl⟩ := List.mem_map.1 e
        exact itoa_nocomma _)
theorem tail_len (l : List UInt8) : (tailD l).length ≤ l.length := by unfold tailD; split <;> simp
theorem itoa_13 (n : Int) (h1 : -1000000000000 ≤ n) (h2 : n ≤ 1000000000000) : (Lib.itoa n).length ≤ 14 := by
  by_cases h0 : n = 0
  · subst h0; rw [itoa_zero]; simp
  by_cases hn : n < 0
  · obtain ⟨m, rfl⟩ : ∃ m : Nat, n = -(m : Int) := ⟨n.natAbs, by omega⟩
    rw [itoa_neg m (by omega)]
    have := revD_len 13 m (by omega)
    simp; omega
  · obtain ⟨m, rfl⟩ : ∃ m : Nat, n = m := ⟨n.toNat, by omega⟩
    rw [itoa_pos m (by omega)]
    have := revD_len 13 m (by omega)
    simp; omega
theorem num_back (n : Int) (h1 : -1000000000000 ≤ n) (h2 : n ≤ 1000000000000) : numI (Lib.itoa n) = some n := by
  apply num_itoa
  have := itoa_13 n h1 h2
  have := tail_len (Lib.itoa n)
  omega
theorem rn_back (n : Int) (h1 : -1000000000000 ≤ n) (h2 : n ≤ 1000000000000) : rn (Lib.itoa n) = some n :=
  rn_some (num_back n h1 h2) (by simp [inI, h1, h2])
theorem list_back (zs : List Int) (h : zs ≠ []) (hl : zs.length ≤ 64) (hz : ∀ z ∈ zs, -1000000000000 ≤ z ∧ z ≤ 1000000000000) : rlB (jn zs) = true ∧ rlL (jn zs) = zs := by
  have hs := spl_jn zs h
  have h45 : jn zs ≠ [45] := by
    intro e
    rw [e] at hs
    have e2 : spl 44 [45] = [[45]] := by decide
    rw [e2] at hs
    cases zs with
    | nil => exact absurd rfl h
    | cons z r =>
      simp only [List.map_cons, List.cons.injEq] at hs
      have := num_back z (hz z (by simp)).1 (hz z (by simp)).2
      rw [← hs.1] at this
      have e3 : numI [45] = none := by decide
      rw [e3] at this
      cases this
  have hy := rl_yes h45 (by rw [hs, List.length_map]; exact hl) (fun j hj => by
    rw [hs] at hj ⊢
    have hj2 : j < zs.length := by simpa using hj
    have e : (zs.map Lib.itoa).getD j [] = Lib.itoa zs[j] := by simp [hj2]
    rw [e, rn_back _ (hz _ (List.getElem_mem hj2)).1 (hz _ (List.getElem_mem hj2)).2]; rfl)
  refine ⟨hy.1, ?_⟩
  rw [hy.2, rlVals, hs, List.map_map]
  conv => rhs; rw [← List.map_id zs]
  apply List.map_congr_left
  intro z hzm
  simp [rn_back z (hz z hzm).1 (hz z hzm).2]
theorem near_half (a b : Int) (hb : 0 < b) : 2 * (a - nearI a b * b) ≤ b ∧ -b ≤ 2 * (a - nearI a b * b) := by
  obtain ⟨B, rfl⟩ : ∃ B : Nat, b = B := ⟨b.toNat, by omega⟩
  have key : ∀ A : Nat, 2 * ((A : Int) - (((2 * A + B) / (2 * B) : Nat) : Int) * B) ≤ B ∧ -(B : Int) ≤ 2 * ((A : Int) - (((2 * A + B) / (2 * B) : Nat) : Int) * B) := by
    intro A
    have e := Nat.div_add_mod (2 * A + B) (2 * B)
    have l := Nat.mod_lt (2 * A + B) (show 0 < 2 * B by omega)
    generalize (2 * A + B) / (2 * B) = Q at *
    have e2 : (2 * B) * Q = 2 * (Q * B) := by rw [Nat.mul_assoc, Nat.mul_comm B Q]
    have e3 : ((Q : Int) * (B : Int)) = ((Q * B : Nat) : Int) := by simp
    rw [e3]
    generalize Q * B = P at *
    omega
  by_cases ha : 0 ≤ a
  · obtain ⟨A, rfl⟩ : ∃ A : Nat, a = A := ⟨a.toNat, by omega⟩
    rw [near_nn A B (by omega)]
    exact key A
  · obtain ⟨A, rfl⟩ : ∃ A : Nat, a = -(A : Int) := ⟨a.natAbs, by omega⟩
    rw [near_pn A B (by omega), Int.neg_mul]
    have := key A
    omega
theorem near_neg (a b : Int) (hb : 0 < b) : nearI (-a) b = -nearI a b := by
  obtain ⟨B, rfl⟩ : ∃ B : Nat, b = B := ⟨b.toNat, by omega⟩
  by_cases ha : 0 ≤ a
  · obtain ⟨A, rfl⟩ : ∃ A : Nat, a = A := ⟨a.toNat, by omega⟩
    rw [near_nn A B (by omega), near_pn A B (by omega)]
  · obtain ⟨A, rfl⟩ : ∃ A : Nat, a = -(A : Int) := ⟨a.natAbs, by omega⟩
    rw [Int.neg_neg, near_nn A B (by omega), near_pn A B (by omega), Int.neg_neg]
theorem dr_in (a b : Int) (ha1 : -1000000000000 ≤ a) (ha2 : a ≤ 1000000000000) (hb : 0 < b) (hb2 : b ≤ 1000000000000) : drI a b = nearI a b := by
  unfold drI
  have e1 : (b == 0) = false := by rw [beq_eq_false_iff_ne]; omega
  have e2 : wiI 1000000000000 [a, b] = true := by rw [wi2]; simp [inI]; omega
  rw [e1, e2]; rfl
theorem nearq (c x : Int) (hc : 0 ≤ c) (hx0 : 0 ≤ x) (hx : x ≤ 1000) : 0 ≤ nearI (c * x) 1000 ∧ nearI (c * x) 1000 ≤ c := by
  obtain ⟨C, rfl⟩ : ∃ C : Nat, c = C := ⟨c.toNat, by omega⟩
  obtain ⟨X, rfl⟩ : ∃ X : Nat, x = X := ⟨x.toNat, by omega⟩
  have e : ((C : Int) * (X : Int)) = ((C * X : Nat) : Int) := by simp
  rw [e]
  have h := near_nn (C * X) 1000 (by omega)
  rw [show ((1000 : Nat) : Int) = 1000 from rfl] at h
  rw [h]
  have hm : C * X ≤ C * 1000 := Nat.mul_le_mul_left _ (by omega)
  generalize C * X = P at *
  omega
theorem blend_between (y z x : Int) (hy : -2500 ≤ y ∧ y ≤ 2500) (hz : -2500 ≤ z ∧ z ≤ 2500) (hx : 0 ≤ x ∧ x ≤ 1000) : min y z ≤ blI 0 y 1000 z x ∧ blI 0 y 1000 z x ≤ max y z := by
  have hw : wiI 1000000 [0, y, 1000, z] = true := by rw [wi4]; simp [inI]; omega
  unfold blI
  rw [if_pos hw]
  unfold lineI
  by_cases h0 : x ≤ 0
  · rw [if_pos (Or.inl h0)]; omega
  · rw [if_neg (by omega)]
    by_cases h1 : 1000 ≤ x
    · rw [if_pos h1]; omega
    · rw [if_neg h1, Int.sub_zero, Int.sub_zero]
      by_cases hc : 0 ≤ z - y
      · have := nearq (z - y) x hc (by omega) (by omega)
        omega
      · have e : (z - y) * x = -((y - z) * x) := by rw [← Int.neg_mul]; congr 1; omega
        rw [e, near_neg _ _ (by omega)]
        have := nearq (y - z) x (by omega) (by omega) (by omega)
        omega
theorem blend_0 (y z : Int) (hy : -2500 ≤ y ∧ y ≤ 2500) (hz : -2500 ≤ z ∧ z ≤ 2500) : blI 0 y 1000 z 0 = y := by
  have hw : wiI 1000000 [0, y, 1000, z] = true := by rw [wi4]; simp [inI]; omega
  unfold blI lineI
  rw [if_pos hw, if_pos (Or.inl (by omega))]
theorem blend_1000 (y z : Int) (hy : -2500 ≤ y ∧ y ≤ 2500) (hz : -2500 ≤ z ∧ z ≤ 2500) : blI 0 y 1000 z 1000 = z := by
  have hw : wiI 1000000 [0, y, 1000, z] = true := by rw [wi4]; simp [inI]; omega
  unfold blI lineI
  rw [if_pos hw, if_neg (by omega), if_pos (by omega)]
theorem root_facts (a : Int) (ha : 0 ≤ a) (ha2 : a ≤ 3600000000) : 0 ≤ rootI a ∧ rootI a ≤ 60000 ∧ rootI a * rootI a ≤ a ∧ a < (rootI a + 1) * (rootI a + 1) := by
  obtain ⟨N, rfl⟩ : ∃ N : Nat, a = N := ⟨a.toNat, by omega⟩
  unfold rootI
  rw [Int.toNat_natCast]
  obtain ⟨h1, h2⟩ := natRoot_spec N
  generalize natRoot N = r at *
  have hr : r ≤ 60000 := by
    rcases Nat.lt_or_ge 60000 r with h | h
    · have := Nat.mul_le_mul (show 60001 ≤ r from h) (show 60001 ≤ r from h)
      omega
    · exact h
  have e1 : ((r : Int) * r) = ((r * r : Nat) : Int) := by simp
  have e2 : (((r : Int) + 1) * ((r : Int) + 1)) = (((r + 1) * (r + 1) : Nat) : Int) := by simp
  rw [e1, e2]
  omega
theorem root_neg (a : Int) (ha : a < 0) : rootI a = 0 := by
  unfold rootI
  rw [show a.toNat = 0 by omega]; rfl
end Go.Proofs.YtglbbpcdodlnmaaDoor
