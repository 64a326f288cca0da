/- markText of the laws. -/
import Derived.Test.YtkmmhkhbpfkmcaaGreatDoorK1
import Derived.Test.YtkmmhkhbpfkmcaaGreatDoorProg
import Derived.Test.YtkmmhkhbpfkmcaaGreatDoorDecMath
import Derived.Laws.Concat
import Derived.Lib.Join
import Derived.LoopTactic
namespace Go.Proofs.YtkmmhkhbpfkmcaaGreatDoor.Mk
open Go.Proofs.YtkmmhkhbpfkmcaaGreatDoor
open Go.ChangeShapes Go.WideShapes Go.ChangeAt Go.RowKit
set_option linter.unusedVariables false

def tb (l : List UInt8) : ByteArray := ⟨l.toArray⟩
theorem tb_size (l : List UInt8) : (tb l).size = l.length := by show l.toArray.size = _; simp
theorem tb_append (a b : List UInt8) : tb a ++ tb b = tb (a ++ b) := by unfold tb; rw [ByteArray.mk_append_mk]
theorem add_tb (a b : List UInt8) (w : World) (h : a.length + b.length ≤ 1048576) : (Op.stringOp .add (tb a) (tb b)).run Tryz.prog w = .ok (.string (tb (a ++ b))) w := by
  rw [run_string_add_sum w _ _ (by rw [tb_size, tb_size]; omega), tb_append]
theorem ret_tb {a b : List UInt8} (h : a = b) : Ending.returned (.string (tb a)) = .returned (.string (tb b)) := by rw [h]
def mtL (k : Nat) : List UInt8 := 109 :: Lib.decDigits k
def MtInv (k m : Nat) (O : List UInt8) : Prop := revD k = O.reverse ++ revD m ∧ O.length ≤ 20
theorem mt_step {k m : Nat} {O : List UInt8} (h : MtInv k m O) (hm : m ≠ 0) (hk : k < 10 ^ 20) : MtInv k (m / 10) (UInt8.ofNat (48 + m % 10) :: O) := by
  obtain ⟨h1, _⟩ := h
  have e : revD k = (UInt8.ofNat (48 + m % 10) :: O).reverse ++ revD (m / 10) := by rw [h1, revD_pos m hm]; simp
  refine ⟨e, ?_⟩
  have := congrArg List.length e
  have h2 := revD_len 20 k hk
  rw [List.length_append, List.length_reverse] at this
  omega
theorem mt_end {k : Nat} {O : List UInt8} (h : MtInv k 0 O) (hk : k ≠ 0) : O = Lib.decDigits k := by
  have := h.1
  rw [revD_zero, List.append_nil] at this
  rw [dec_rev k hk, this, List.reverse_reverse]
theorem conv1 (c : UInt8) (w : World) (t : TypeId) (n : Int) (hn : n = (c.toNat : Int)) : (convert 117 9 (.slice (some ⟨w.heap.size, 0, none⟩) 1 1)).run Tryz.prog (w.alloc (.cells #[.int .u8 n] t)) = .ok (.string (tb [c])) (w.alloc (.cells #[.int .u8 n] t)) := by
  subst hn
  refine run_convert_bytes_back (P := Tryz.prog) (w.alloc (.cells #[.int .u8 (c.toNat : Int)] t)) 117 9 5 ⟨w.heap.size, 0, none⟩ 1 [c] Tryz.underlying117 Tryz.underlying5 Tryz.underlying9 (fun j hj => ?_)
  match j, hj with
  | 0, _ => simp [Addr.add]

set_option maxRecDepth 100000 in
set_option maxHeartbeats 1000000 in
theorem markText_any (k : Nat) (w : World) (hk : 1 ≤ k) (hk2 : k ≤ 1000000000) :
    Calls Tryz.prog 42 #[.int .i64 k] w fun e w' => e = .returned (.string (tb (mtL k))) ∧ Below w.heap.size w w' := by
  go_enter Tryz.func42, Tryz.ntmps42
  go_wp2
  go_loopw [0, 3] (fun n o wr => ∃ (m : Nat) (O : List UInt8), m ≤ k ∧ n = .int .i64 m ∧ o = .string (tb O) ∧ Hid (MtInv k m O) ∧ Hid (Below w.heap.size w wr)) (fun n _ _ => (intOf n).toNat)
  case atStart => exact ⟨k, [], by omega, rfl, rfl, Lib.hid ⟨by simp, by simp⟩, Lib.hid (Below.refl _ _)⟩
  case round =>
    obtain ⟨m, O, hm, rfl, rfl, hI, hB⟩ := hrel
    have hOl := hI.out.2
    by_cases hp : 0 < m
    · have HN := Lib.hid (mt_step hI.out (by omega) (by omega))
      have hcv := conv1 (UInt8.ofNat (48 + m % 10)) wr 5 (48 + (m : Int) % 10) (by rw [UInt8.toNat_ofNat']; omega)
      generalize UInt8.ofNat (48 + m % 10) = c at *
      have had := fun w => add_tb [c] O w (by simp; omega)
      have hBs := hB.out.size
      go_wp2
      go_roundw
      case rel => exact ⟨m / 10, c :: O, by omega, by go_num, rfl, HN, Lib.hid (hB.out.alloc hBs _)⟩
      case measure => simp [intOf]; omega
    · have hm0 : m = 0 := by omega
      subst hm0
      have HE := Lib.hid (mt_end hI.out (by omega))
      have had : ∀ w, (Op.stringOp .add ⟨#[109]⟩ (tb O)).run Tryz.prog w = .ok (.string (tb (109 :: O))) w := fun w => add_tb [109] O w (by simp; omega)
      go_wp2
      go_ret
      exact ⟨ret_tb (by rw [HE.out]; rfl), hB.out⟩
end Go.Proofs.YtkmmhkhbpfkmcaaGreatDoor.Mk
