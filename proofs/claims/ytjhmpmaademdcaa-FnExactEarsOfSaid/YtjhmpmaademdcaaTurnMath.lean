/- Turns: the eight changes of a point, and the group that they form; plain mathematics. -/
import Derived.Test.YtjhmpmaademdcaaK1
namespace Go.Proofs.Ytjhmpmaademdcaa

def tuX (t x y : Int) : Int := if t = 1 then -y else if t = 2 then -x else if t = 3 then y else if t = 4 then -x else if t = 5 then -y else if t = 6 then x else if t = 7 then y else x
def tuY (t x y : Int) : Int := if t = 1 then x else if t = 2 then -y else if t = 3 then -x else if t = 4 then y else if t = 5 then -x else if t = 6 then -y else if t = 7 then x else y
/-- The first turn from k on, of the n next ones, for which g says yes; 0 if there is none. -/
def firstT (g : Int → Bool) : Nat → Int → Int
  | 0, _ => 0
  | n + 1, k => if g k then k else firstT g n (k + 1)
def invT (t : Int) : Int := firstT (fun b => decide (tuX b (tuX t 1 2) (tuY t 1 2) = 1) && decide (tuY b (tuX t 1 2) (tuY t 1 2) = 2)) 8 0
def cmpT (x y a b : Int) : Int := firstT (fun t => decide (tuX t x y = tuX b (tuX a x y) (tuY a x y)) && decide (tuY t x y = tuY b (tuX a x y) (tuY a x y))) 8 0
theorem turn_cases {t : Int} (h0 : 0 ≤ t) (h1 : t ≤ 7) : ∃ k : Fin 8, t = (k.val : Int) := ⟨⟨t.toNat, by omega⟩, by simp; omega⟩
theorem inv_eq (t : Int) (h0 : 0 ≤ t) (h1 : t ≤ 7) : invT t = if 4 ≤ t then t else (4 - t) % 4 := by
  obtain ⟨k, rfl⟩ := turn_cases h0 h1
  revert k
  decide +kernel
theorem cmp_eq (a b : Int) (ha : 0 ≤ a) (ha1 : a ≤ 7) (hb : 0 ≤ b) (hb1 : b ≤ 7) : cmpT 1 2 a b = cmpT 2 1 a b := by
  obtain ⟨k, rfl⟩ := turn_cases ha ha1
  obtain ⟨j, rfl⟩ := turn_cases hb hb1
  revert k j
  decide +kernel
theorem tu_bd (t x y : Int) (h1 : -20000 ≤ x ∧ x ≤ 20000) (h2 : -20000 ≤ y ∧ y ≤ 20000) : (-20000 ≤ tuX t x y ∧ tuX t x y ≤ 20000) ∧ (-20000 ≤ tuY t x y ∧ tuY t x y ≤ 20000) := by
  unfold tuX tuY
  refine ⟨?_, ?_⟩ <;> (repeat' split) <;> omega
theorem firstT_rng (g : Int → Bool) : ∀ (n : Nat) (k : Int), 0 ≤ k → 0 ≤ firstT g n k ∧ firstT g n k ≤ k + n
  | 0, k, h => by simp [firstT]; omega
  | n + 1, k, h => by
    have := firstT_rng g n (k + 1) (by omega)
    unfold firstT
    split <;> omega
theorem first_yes (g : Int → Bool) (n : Nat) (k : Int) (h : g k = true) : firstT g (n + 1) k = k := by
  show (if g k then k else firstT g n (k + 1)) = k
  rw [if_pos h]
theorem first_no (g : Int → Bool) (n : Nat) (k : Int) (h : g k = false) : firstT g (n + 1) k = firstT g n (k + 1) := by
  show (if g k then k else firstT g n (k + 1)) = _
  rw [if_neg (by simp [h])]
end Go.Proofs.Ytjhmpmaademdcaa
