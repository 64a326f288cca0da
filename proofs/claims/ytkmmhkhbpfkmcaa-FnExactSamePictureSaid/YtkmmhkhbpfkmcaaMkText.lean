/- markText of the laws. -/
import Derived.Test.YtkmmhkhbpfkmcaaK1
import Derived.Test.YtkmmhkhbpfkmcaaProg
import Derived.Test.YtkmmhkhbpfkmcaaDecMath
import Derived.Laws.Concat
import Derived.Lib.Join
import Derived.LoopTactic
namespace Go.Proofs.Ytkmmhkhbpfkmcaa.Mk
open Go.Proofs.Ytkmmhkhbpfkmcaa
open Go.ChangeShapes Go.WideShapes Go.ChangeAt Go.RowKit
set_option linter.unusedVariables false

def tb (l : List UInt8) : ByteArray := ⟨l.toArray⟩
theorem tb_size (l : List UInt8) : (tb l).size = l.length := by show l.toArray.size = _; simp
theorem tb_append (a b : List UInt8) : tb a ++ tb b = tb (a ++ b) := by unfold tb; rw [ByteArray.mk_append_mk]
theorem add_tb (a b : List UInt8) (w : World) (h : a.length + b.length ≤ 1048576) : (Op.stringOp .add (tb a) (tb b)).run Try.prog w = .ok (.string (tb (a ++ b))) w := by
  rw [run_string_add_sum w _ _ (by rw [tb_size, tb_size]; omega), tb_append]
theorem ret_tb {a b : List UInt8} (h : a = b) : Ending.returned (.string (tb a)) = .returned (.string (tb b)) := by rw [h]
def mtL (k : Nat) : List UInt8 := 109 :: Lib.decDigits k
def MtInv (k m : Nat) (O : List UInt8) : Prop := revD k = O.reverse ++ revD m ∧ O.length ≤ 20
theorem mt_step {k m : Nat} {O : List UInt8} (h : MtInv k m O) (hm : m ≠ 0) (hk : k < 10 ^ 20) : MtInv k (m / 10) (UInt8.ofNat (48 + m % 10) :: O) := by
  obtain ⟨h1, _⟩ := h
  have e : revD k = (UInt8.ofNat (48 + m % 10) :: O).reverse ++ revD (m / 10) := by rw [h1, revD_pos m hm]; simp
  refine ⟨e, ?_⟩
  have := congrArg List.length e
  have h2 := revD_len 20 k hk
  rw [List.length_append, List.length_reverse] at this
  omega
theorem mt_end {k : Nat} {O : List UInt8} (h : MtInv k 0 O) (hk : k ≠ 0) : O = Lib.decDigits k := by
  have := h.1
  rw [revD_zero, List.append_nil] at this
  rw [dec_rev k hk, this, List.reverse_reverse]
end Go.Proofs.Ytkmmhkhbpfkmcaa.Mk
