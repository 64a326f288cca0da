/- ListText of spec: the text of a list of numbers. -/
import Derived.Test.YthjimogeimigmaaDoorInts
import Derived.Test.YthjimogeimigmaaDoorDec
import Derived.Test.YthjimogeimigmaaDoorK1
import Derived.Test.YthjimogeimigmaaDoorK7
import Derived.Laws.Concat
import Derived.Lib.Join
namespace Go.Proofs.YthjimogeimigmaaDoor
open Go.ChangeShapes Go.WideShapes Go.ChangeAt Go.RowKit

/-- A list of bytes as a text. -/
def tb (l : List UInt8) : ByteArray := ⟨l.toArray⟩
theorem tb_size (l : List UInt8) : (tb l).size = l.length := by show l.toArray.size = _; simp
theorem tb_append (a b : List UInt8) : tb a ++ tb b = tb (a ++ b) := by unfold tb; rw [ByteArray.mk_append_mk]
theorem tb_data (l : List UInt8) : (tb l).data.toList = l := by simp [tb]
def jn (zs : List Int) : List UInt8 := Lib.join (zs.map Lib.itoa) [44]
def fitB (zs : List Int) : Bool := wiI 1000000000000 zs && decide (zs.length ≤ 64)
def listT (zs : List Int) : List UInt8 := if zs.length = 0 then [45] else jn zs
def listR (zs : List Int) : List UInt8 := if fitB zs then listT zs else []

theorem join_snoc (x : List UInt8) (r : List (List UInt8)) (y sep : List UInt8) : Lib.join (x :: (r ++ [y])) sep = Lib.join (x :: r) sep ++ (sep ++ y) := by
  rw [Lib.join_cons, Lib.join_cons]
  simp [Lib.joinTail]
theorem take_map_snoc (zs : List Int) (k : Nat) (h : k < zs.length) : zs.take (k + 1) = zs.take k ++ [zs.getD k 0] := by
  rw [List.take_succ_eq_append_getElem h]; simp [h]
theorem jn_first (zs : List Int) (h : 0 < zs.length) : jn (zs.take 1) = Lib.itoa (zs.getD 0 0) := by
  rw [take_map_snoc zs 0 h]; simp [jn, Lib.join_one]
theorem jn_next (zs : List Int) (k : Nat) (hk : 0 < k) (h : k < zs.length) : jn (zs.take (k + 1)) = jn (zs.take k) ++ [44] ++ Lib.itoa (zs.getD k 0) := by
  rw [take_map_snoc zs k h]
  unfold jn
  rw [List.map_append, List.map_cons, List.map_nil]
  cases hz : (zs.take k).map Lib.itoa with
  | nil =>
    have := congrArg List.length hz
    rw [List.length_map, List.length_take, List.length_nil] at this
    omega
  | cons x r => rw [List.cons_append, join_snoc, List.append_assoc]
theorem itoa_len (n : Int) (h1 : -9223372036854775808 ≤ n) (h2 : n ≤ 9223372036854775807) : (Lib.itoa n).length ≤ 20 := by
  by_cases h0 : n = 0
  · subst h0; rw [itoa_zero]; simp
  by_cases hn : n < 0
  · obtain ⟨m, rfl⟩ : ∃ m : Nat, n = -(m : Int) := ⟨n.natAbs, by omega⟩
    rw [itoa_neg m (by omega)]
    have := revD_len 19 m (by omega)
    simp; omega
  · obtain ⟨m, rfl⟩ : ∃ m : Nat, n = m := ⟨n.toNat, by omega⟩
    rw [itoa_pos m (by omega)]
    have := revD_len 19 m (by omega)
    simp; omega
theorem wi_at {m : Int} {zs : List Int} (h : wiI m zs = true) (k : Nat) (hk : k < zs.length) : -m ≤ zs.getD k 0 ∧ zs.getD k 0 ≤ m := by
  have := List.all_eq_true.1 h (zs.getD k 0) (by simp [hk])
  simpa using this
theorem jn_len (zs : List Int) (hw : wiI 1000000000000 zs = true) : ∀ k, k ≤ zs.length → (jn (zs.take k)).length ≤ 21 * k
  | 0, _ => by simp [jn, Lib.join_nil]
  | k + 1, h => by
    have hb := wi_at hw k (by omega)
    have hi := itoa_len (zs.getD k 0) (by omega) (by omega)
    by_cases hk : k = 0
    · subst hk; rw [jn_first zs (by omega)]; omega
    · rw [jn_next zs k (by omega) (by omega)]
      have := jn_len zs hw k (by omega)
      simp only [List.length_append, List.length_cons, List.length_nil]; omega
theorem wi_take_no {m : Int} {zs : List Int} {k : Nat} (hk : k < zs.length) (h : inI (zs.getD k 0) (-m) m = false) : wiI m zs = false := by
  unfold wiI
  rw [List.all_eq_false]
  exact ⟨zs.getD k 0, by simp [hk], by simpa [inI] using h⟩
theorem wi_yes {m : Int} {zs : List Int} (h : ∀ j, j < zs.length → inI (zs.getD j 0) (-m) m = true) : wiI m zs = true := by
  unfold wiI
  rw [List.all_eq_true]
  intro x hx
  obtain ⟨j, hj, rfl⟩ := List.getElem_of_mem hx
  have := h j hj
  simpa [inI, hj] using this

theorem dec_tb (n : Int) (w : World) (h1 : -9223372036854775808 ≤ n) (h2 : n ≤ 9223372036854775807) :
    Calls Tryd.prog 81 #[.int .i64 n] w fun e w' => e = .returned (.string (tb (Lib.itoa n))) ∧ Below w.heap.size w w' := l01Dec_any n w h1 h2
theorem add_tb (a b : List UInt8) (w : World) (h : a.length + b.length ≤ 1048576) : (Op.stringOp .add (tb a) (tb b)).run Tryd.prog w = .ok (.string (tb (a ++ b))) w := by
  rw [run_string_add_sum w _ _ (by rw [tb_size, tb_size]; omega), tb_append]
theorem add_comma (a : List UInt8) (w : World) (h : a.length ≤ 104857) : (Op.stringOp .add (tb a) ⟨#[44]⟩).run Tryd.prog w = .ok (.string (tb (a ++ [44]))) w := add_tb a [44] w (by simp; omega)
theorem ret_tb {a b : List UInt8} (h : a = b) : Ending.returned (.string (tb a)) = .returned (.string (tb b)) := by rw [h]
theorem tb_empty : tb [] = ⟨#[]⟩ := rfl

end Go.Proofs.YthjimogeimigmaaDoor
