/- The order of byte strings. -/
import Derived.Test.YtmfchcaidfloaaaDoorProg
namespace Go.Proofs.YtmfchcaidfloaaaDoor
theorem u8_lt (a b : UInt8) : decide (a < b) = decide (a.toNat < b.toNat) := decide_eq_decide.2 UInt8.lt_iff_toNat_lt
theorem u8_not {a b : UInt8} (h : a ≠ b) : (decide (a < b)) = !decide (b < a) := by
  have h1 : a.toNat ≠ b.toNat := fun e => h (UInt8.toNat_inj.1 e)
  rw [u8_lt, u8_lt]
  by_cases h2 : a.toNat < b.toNat
  · rw [decide_eq_true h2, decide_eq_false (by omega)]; rfl
  · rw [decide_eq_false h2, decide_eq_true (by omega)]; rfl
/-- Of two names one is less, or they are the same. -/
theorem bl_total : ∀ a b : List UInt8, Op.bytesLess a b = !(Op.bytesLess b a || b == a)
  | [], [] => rfl
  | [], _ :: _ => rfl
  | _ :: _, [] => rfl
  | a :: x, b :: y => by
    unfold Op.bytesLess
    by_cases h : a = b
    · subst h
      have h3 : decide (a < a) = false := by rw [u8_lt]; simp
      rw [h3, bl_total x y]
      simp
    · have h1 : (a == b) = false := by simpa using h
      have h2 : (b == a) = false := by simpa using Ne.symm h
      have h4 : (b :: y == a :: x) = false := by simp [Ne.symm h]
      rw [h1, h2, h4, u8_not h]
      simp
end Go.Proofs.YtmfchcaidfloaaaDoor
