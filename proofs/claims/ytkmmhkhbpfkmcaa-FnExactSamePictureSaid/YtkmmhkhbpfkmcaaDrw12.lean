/- Is a drawing valid, in impl: the faces, the whole. -/
import Derived.Test.YtkmmhkhbpfkmcaaDrw11
import Derived.Laws.Cover1
namespace Go.Proofs.Ytkmmhkhbpfkmcaa
open Seq2 Go.ChangeShapes Go.WideShapes Go.ChangeAt Go.RowKit
set_option linter.unusedVariables false
set_option linter.unusedSimpArgs false

theorem u8_lt (a b : UInt8) : decide (a < b) = decide (a.toNat < b.toNat) := decide_eq_decide.2 UInt8.lt_iff_toNat_lt
theorem u8_not {a b : UInt8} (h : a ≠ b) : (decide (a < b)) = !decide (b < a) := by
  have h1 : a.toNat ≠ b.toNat := fun e => h (UInt8.toNat_inj.1 e)
  rw [u8_lt, u8_lt]
  by_cases h2 : a.toNat < b.toNat
  · rw [decide_eq_true h2, decide_eq_false (by omega)]; rfl
  · rw [decide_eq_false h2, decide_eq_true (by omega)]; rfl
/-- Of two names one is less, or they are the same. -/
theorem bl_total : ∀ a b : List UInt8, Op.bytesLess a b = !(Op.bytesLess b a || b == a)
  | [], [] => rfl
  | [], _ :: _ => rfl
  | _ :: _, [] => rfl
  | a :: x, b :: y => by
    unfold Op.bytesLess
    by_cases h : a = b
    · subst h
      have h3 : decide (a < a) = false := by rw [u8_lt]; simp
      rw [h3, bl_total x y]
      simp
    · have h1 : (a == b) = false := by simpa using h
      have h2 : (b == a) = false := by simpa using Ne.symm h
      have h4 : (b :: y == a :: x) = false := by simp [Ne.symm h]
      rw [h1, h2, h4, u8_not h]
      simp
def bfAt (fs : List Fc) (k : Nat) : ByteArray := if k = 0 then ⟨#[]⟩ else (fs.getD (k - 1) fc0).1
def notUp (s b : ByteArray) : Bool := Op.bytesLess s.toList b.toList || s.toList == b.toList
theorem up_bad {zs : List P2} {fs : List Fc} {k : Nat} (h : notUp (fs.getD k fc0).1 (bfAt fs k) = true) : faceB zs fs k = false := by
  unfold faceB ordB
  by_cases h0 : k = 0
  · subst h0
    have hz : (fs.getD 0 fc0).1.toList = [] := by
      unfold notUp bfAt at h
      rw [if_pos rfl, show (⟨#[]⟩ : ByteArray).toList = [] from by rw [ByteArray.toList_eq]] at h
      cases e : (fs.getD 0 fc0).1.toList with
      | nil => rfl
      | cons a l => rw [e] at h; simp [Op.bytesLess] at h
    have hs : (fs.getD 0 fc0).1.size = 0 := by
      rcases Nat.eq_zero_or_pos (fs.getD 0 fc0).1.size with h | h
      · exact h
      · exact absurd hz (nonempty_of _ h)
    rw [name_zero _ hs]; rfl
  · unfold notUp bfAt at h
    rw [if_neg h0] at h
    have : lessB (fs.getD (k - 1) fc0).1 (fs.getD k fc0).1 = false := by
      unfold lessB; rw [bl_total, h]; rfl
    rw [this, decide_eq_false h0]; simp
theorem up_good {fs : List Fc} {k : Nat} (h : notUp (fs.getD k fc0).1 (bfAt fs k) = false) : ordB fs k = true := by
  unfold ordB
  by_cases h0 : k = 0
  · rw [decide_eq_true h0]; rfl
  · unfold notUp bfAt at h
    rw [if_neg h0] at h
    unfold lessB
    rw [bl_total, h]; simp
theorem faces_bad' {zs : List P2} {fs : List Fc} {i : Nat} (hi : i < fs.length) (h : faceB zs fs i = false) : facesB zs fs = false := by
  unfold facesB; rw [allTo_bad hi h]; simp
end Go.Proofs.Ytkmmhkhbpfkmcaa
