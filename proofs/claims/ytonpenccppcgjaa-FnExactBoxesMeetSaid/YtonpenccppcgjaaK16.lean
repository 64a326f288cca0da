/- Several texts in one: DigS, Bytes, Name. -/
import Derived.Test.YtonpenccppcgjaaProg
import Derived.Test.YtonpenccppcgjaaK1
import Derived.LoopTactic
namespace Go.Proofs.Ytonpenccppcgjaa
open Go.ChangeShapes Go.WideShapes Go.ChangeAt Go.RowKit

end Go.Proofs.Ytonpenccppcgjaa
namespace Go.Proofs.Ytonpenccppcgjaa
open Go.ChangeShapes Go.WideShapes Go.ChangeAt Go.RowKit

end Go.Proofs.Ytonpenccppcgjaa
namespace Go.Proofs.Ytonpenccppcgjaa
open Go.ChangeShapes Go.WideShapes Go.ChangeAt Go.RowKit

def okC (c : UInt8) : Bool := smallI c.toNat || digI c.toNat
def headSmall (l : List UInt8) : Bool := match l with | [] => false | c :: _ => smallI c.toNat
def nameB (s : ByteArray) : Bool := decide (s.size ≤ 10) && headSmall s.data.toList && s.data.toList.all okC

theorem take_snoc (s : ByteArray) (k : Nat) (h : k < s.size) : s.data.toList.take (k + 1) = s.data.toList.take k ++ [s[k]] := by
  rw [List.take_succ_eq_append_getElem (by simpa using h)]; rfl
theorem head_eq (s : ByteArray) (h : 0 < s.size) : headSmall s.data.toList = smallI s[0].toNat := by
  have e := take_snoc s 0 h
  match hl : s.data.toList with
  | [] => have : s.data.toList.length = 0 := by rw [hl]; rfl
          have h2 : s.data.toList.length = s.size := by simp
          omega
  | c :: r => rw [hl] at e; simp at e; rw [← e]; rfl
theorem name_zero (s : ByteArray) (h : s.size = 0) : nameB s = false := by
  have : s.data.toList = [] := by apply List.eq_nil_of_length_eq_zero; simpa using h
  simp [nameB, headSmall, this]
theorem name_long (s : ByteArray) (h : ¬ s.size ≤ 10) : nameB s = false := by
  simp [nameB]; intro h'; exact absurd h' h
theorem name_head (s : ByteArray) (h : 0 < s.size) (hh : smallI s[0].toNat = false) : nameB s = false := by
  simp [nameB, head_eq s h, hh]
theorem name_bad (s : ByteArray) (k : Nat) (h : k < s.size) (hh : okC s[k] = false) : nameB s = false := by
  have hm : s[k] ∈ s.data.toList := by
    have : s[k] ∈ s.data.toList.take (k+1) := by rw [take_snoc s k h]; simp
    exact List.mem_of_mem_take this
  have : s.data.toList.all okC = false := by
    rw [List.all_eq_false]; exact ⟨s[k], hm, by simp [hh]⟩
  simp [nameB, this]
theorem name_good (s : ByteArray) (h : 0 < s.size) (h10 : s.size ≤ 10) (hh : smallI s[0].toNat = true) (k : Nat) (hk : s.size ≤ k) (ha : (s.data.toList.take k).all okC = true) : nameB s = true := by
  rw [List.take_of_length_le (by simpa using hk)] at ha
  simp [nameB, head_eq s h, hh, ha, h10]
theorem all_snoc (s : ByteArray) (k : Nat) (h : k < s.size) (ha : (s.data.toList.take k).all okC = true) (hk : okC s[k] = true) : (s.data.toList.take (k+1)).all okC = true := by
  rw [take_snoc s k h, List.all_append, ha]; simp [hk]

theorem nonempty_of (s : ByteArray) (h : 0 < s.size) : ¬ s.toList = [] := by
  rw [ByteArray.toList_eq]; intro e
  have h2 : s.data.toList.length = s.size := by simp
  rw [e] at h2; simp at h2; omega
theorem isEmpty_of (s : ByteArray) (h : 0 < s.size) : s.toList.isEmpty = false := by
  simpa using nonempty_of s h
theorem all_zero (s : ByteArray) : (s.data.toList.take 0).all okC = true := by simp
theorem all_one (s : ByteArray) (h : 0 < s.size) (hh : smallI s[0].toNat = true) : (s.data.toList.take 1).all okC = true :=
  all_snoc s 0 h (all_zero s) (by simp [okC, hh])
theorem ok_of {c : UInt8} {a b : Bool} (h1 : smallI c.toNat = a) (h2 : digI c.toNat = b) : okC c = (a || b) := by rw [okC, h1, h2]

end Go.Proofs.Ytonpenccppcgjaa
