/- errors.Is at errors that errors.New has made: the same one, another one. -/
import Derived.Test.YtonpenccppcgjaaDoorK1
import Derived.Test.YtonpenccppcgjaaDoorChecked
import Derived.WalkKit
import Derived.LaidEql
import Derived.Stop.Asserts
import Derived.RowKitTokens
namespace Go.Proofs.YtonpenccppcgjaaDoor
open Go.ChangeShapes Go.WideShapes Go.ChangeAt Go.RowKit Go.Extern
set_option linter.unusedVariables false
set_option linter.unusedSimpArgs false

/-- What reflection says of such an error's type. -/
theorem es_type (v : Value) (w : World) : (Extern.ReflectliteType.typeOf #[.iface 236 v]).run Tryd.prog w = .ok (.iface 190 (.agg #[.pointer (some ⟨10, 236, none⟩)])) w := by kernel_rfl
theorem es_cmp (w : World) : (callFunc 224 #[.agg #[.pointer (some ⟨10, 236, none⟩)]]).run Tryd.prog w = .ok (.value (.bool true)) w := by
  rw [@run_callFunc_extern Tryd.prog 224 _ (Extern.ReflectliteType.method fun t => do Extern.Rtype.noPackHeld "Comparable" t; pure (.bool (← typeInfo t).comparable)) Tryd.func224 (by kernel_rfl) (by kernel_rfl) (by kernel_rfl) (by kernel_rfl)]
  kernel_rfl
theorem es_method (k : Nat) (v : Value) (w : World) : (Go.method (k + 1) 190 v "Comparable").run Tryd.prog w = .ok (224, v) w := by kernel_rfl
theorem es_comp : (Tryd.prog.info? 236).map (·.comparable) = some true := by kernel_rfl
theorem es_size : (Tryd.prog.info? 259).map (·.size) = some 1 := by kernel_rfl
/-- It has neither Is nor Unwrap. -/
theorem es_noIs (v : Value) (x : TypeId) (w : World) : (Instr.typeAssert (.iface 236 v) x 192 true).run Tryd.prog w = .ok (.tuple #[.nilIface, .bool false]) w := run_typeAssert_lacksB Tryd.underlying192 (by kernel_rfl) (by kernel_rfl) v x w
theorem es_noUn (v : Value) (x : TypeId) (w : World) : (Instr.typeAssert (.iface 236 v) x 195 true).run Tryd.prog w = .ok (.tuple #[.nilIface, .bool false]) w := run_typeAssert_lacksB Tryd.underlying195 (by kernel_rfl) (by kernel_rfl) v x w
theorem es_noUns (v : Value) (x : TypeId) (w : World) : (Instr.typeAssert (.iface 236 v) x 197 true).run Tryd.prog w = .ok (.tuple #[.nilIface, .bool false]) w := run_typeAssert_lacksB Tryd.underlying197 (by kernel_rfl) (by kernel_rfl) v x w
/-- The error's value. -/
def esV (a : Addr) : Value := .iface 236 (.pointer (some a))
set_option maxRecDepth 100000 in
set_option maxHeartbeats 1000000 in
theorem is_yes (a : Addr) (w : World) : Calls Tryd.prog 126 #[esV a, esV a] w fun e w' => e = .returned (.bool true) ∧ w = w' := by
  unfold esV
  obtain ⟨i, hi, hcmp⟩ := Option.map_eq_some_iff.1 es_comp
  obtain ⟨j, hj, hjs⟩ := Option.map_eq_some_iff.1 es_size
  have hT := @run_callFunc_extern Tryd.prog 155 _ Extern.ReflectliteType.typeOf Tryd.func155 (by kernel_rfl) (by kernel_rfl) (by kernel_rfl) (by kernel_rfl)
  have hC := es_cmp
  have t1 := es_type
  have t3 := es_method
  have heq := run_eql_iface_ptr_same (P := Tryd.prog) w a Tryd.underlying84 Tryd.underlying236 hi hcmp hj
  go_enter Tryd.func126, Tryd.ntmps126
  go_wp2
  refine wp_loop_rounds 1 ?_
  rw [rounds_succ]
  go_wp2
  go_ret
  exact ⟨rfl, rfl⟩
set_option maxRecDepth 100000 in
set_option maxHeartbeats 1000000 in
theorem is_no (a b : Addr) (ca cb : Array Value) (ta tb : TypeId) (w : World) (hne : a ≠ b) (ha : w.heap[a.block]? = some (.cells ca ta (0, 0))) (hb : w.heap[b.block]? = some (.cells cb tb (0, 0))) :
    Calls Tryd.prog 126 #[esV a, esV b] w fun e w' => e = .returned (.bool false) ∧ w = w' := by
  unfold esV
  obtain ⟨i, hi, hcmp⟩ := Option.map_eq_some_iff.1 es_comp
  obtain ⟨j, hj, hjs⟩ := Option.map_eq_some_iff.1 es_size
  have hT := @run_callFunc_extern Tryd.prog 155 _ Extern.ReflectliteType.typeOf Tryd.func155 (by kernel_rfl) (by kernel_rfl) (by kernel_rfl) (by kernel_rfl)
  have hC := es_cmp
  have t1 := es_type
  have t3 := es_method
  have n1 := es_noIs
  have n2 := es_noUn
  have n3 := es_noUns
  have heq := run_eql_iface_ptr_other (P := Tryd.prog) w Tryd.underlying84 Tryd.underlying236 hi hcmp hj (by rw [hjs]; decide) hne ha hb
  go_enter Tryd.func126, Tryd.ntmps126
  go_wp2
  refine wp_loop_rounds 1 ?_
  rw [rounds_succ]
  go_wp2
  go_ret
  exact ⟨rfl, rfl⟩
end Go.Proofs.YtonpenccppcgjaaDoor
