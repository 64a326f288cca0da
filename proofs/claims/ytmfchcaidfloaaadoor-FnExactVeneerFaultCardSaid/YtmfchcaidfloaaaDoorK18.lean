/- Several texts in one: Err1, Err2, Err3, Err4. -/
import Derived.Test.YtmfchcaidfloaaaDoorK1
import Derived.Test.YtmfchcaidfloaaaDoorChecked
import Derived.WalkKit
import Derived.LaidEql
import Derived.Stop.Asserts
import Derived.RowKitTokens
import Derived.Test.YtmfchcaidfloaaaDoorRows
import Derived.Stop.LaidTwo
import Derived.LaidLaws
import Derived.Lib.LaidTab
import Derived.Deep.DeepHandedRow
import Derived.ChangeVars
import Derived.Test.YtmfchcaidfloaaaDoorVenLaid
namespace Go.Proofs.YtmfchcaidfloaaaDoor
open Go.ChangeShapes Go.WideShapes Go.ChangeAt Go.RowKit Go.Extern
set_option linter.unusedVariables false
set_option linter.unusedSimpArgs false

/-- What reflection says of such an error's type. -/
theorem es_type (v : Value) (w : World) : (Extern.ReflectliteType.typeOf #[.iface 227 v]).run Tryd.prog w = .ok (.iface 190 (.agg #[.pointer (some ⟨14, 227, none⟩)])) w := by kernel_rfl
theorem es_cmp (w : World) : (callFunc 209 #[.agg #[.pointer (some ⟨14, 227, none⟩)]]).run Tryd.prog w = .ok (.value (.bool true)) w := by
  rw [@run_callFunc_extern Tryd.prog 209 _ (Extern.ReflectliteType.method fun t => do Extern.Rtype.noPackHeld "Comparable" t; pure (.bool (← typeInfo t).comparable)) Tryd.func209 (by kernel_rfl) (by kernel_rfl) (by kernel_rfl) (by kernel_rfl)]
  kernel_rfl
theorem es_method (k : Nat) (v : Value) (w : World) : (Go.method (k + 1) 190 v "Comparable").run Tryd.prog w = .ok (209, v) w := by kernel_rfl
theorem es_comp : (Tryd.prog.info? 227).map (·.comparable) = some true := by kernel_rfl
theorem es_size : (Tryd.prog.info? 229).map (·.size) = some 1 := by kernel_rfl
/-- It has neither Is nor Unwrap. -/
theorem es_noIs (v : Value) (x : TypeId) (w : World) : (Instr.typeAssert (.iface 227 v) x 192 true).run Tryd.prog w = .ok (.tuple #[.nilIface, .bool false]) w := run_typeAssert_lacksB Tryd.underlying192 (by kernel_rfl) (by kernel_rfl) v x w
theorem es_noUn (v : Value) (x : TypeId) (w : World) : (Instr.typeAssert (.iface 227 v) x 195 true).run Tryd.prog w = .ok (.tuple #[.nilIface, .bool false]) w := run_typeAssert_lacksB Tryd.underlying195 (by kernel_rfl) (by kernel_rfl) v x w
theorem es_noUns (v : Value) (x : TypeId) (w : World) : (Instr.typeAssert (.iface 227 v) x 197 true).run Tryd.prog w = .ok (.tuple #[.nilIface, .bool false]) w := run_typeAssert_lacksB Tryd.underlying197 (by kernel_rfl) (by kernel_rfl) v x w
/-- The error's value. -/
def esV (a : Addr) : Value := .iface 227 (.pointer (some a))
set_option maxRecDepth 100000 in
set_option maxHeartbeats 1000000 in
theorem is_yes (a : Addr) (w : World) : Calls Tryd.prog 105 #[esV a, esV a] w fun e w' => e = .returned (.bool true) ∧ w = w' := by
  unfold esV
  obtain ⟨i, hi, hcmp⟩ := Option.map_eq_some_iff.1 es_comp
  obtain ⟨j, hj, hjs⟩ := Option.map_eq_some_iff.1 es_size
  have hT := @run_callFunc_extern Tryd.prog 124 _ Extern.ReflectliteType.typeOf Tryd.func124 (by kernel_rfl) (by kernel_rfl) (by kernel_rfl) (by kernel_rfl)
  have hC := es_cmp
  have t1 := es_type
  have t3 := es_method
  have heq := run_eql_iface_ptr_same (P := Tryd.prog) w a Tryd.underlying83 Tryd.underlying227 hi hcmp hj
  go_enter Tryd.func105, Tryd.ntmps105
  go_wp2
  refine wp_loop_rounds 1 ?_
  rw [rounds_succ]
  go_wp2
  go_ret
  exact ⟨rfl, rfl⟩
set_option maxRecDepth 100000 in
set_option maxHeartbeats 1000000 in
theorem is_no (a b : Addr) (ca cb : Array Value) (ta tb : TypeId) (w : World) (hne : a ≠ b) (ha : w.heap[a.block]? = some (.cells ca ta (0, 0))) (hb : w.heap[b.block]? = some (.cells cb tb (0, 0))) :
    Calls Tryd.prog 105 #[esV a, esV b] w fun e w' => e = .returned (.bool false) ∧ w = w' := by
  unfold esV
  obtain ⟨i, hi, hcmp⟩ := Option.map_eq_some_iff.1 es_comp
  obtain ⟨j, hj, hjs⟩ := Option.map_eq_some_iff.1 es_size
  have hT := @run_callFunc_extern Tryd.prog 124 _ Extern.ReflectliteType.typeOf Tryd.func124 (by kernel_rfl) (by kernel_rfl) (by kernel_rfl) (by kernel_rfl)
  have hC := es_cmp
  have t1 := es_type
  have t3 := es_method
  have n1 := es_noIs
  have n2 := es_noUn
  have n3 := es_noUns
  have heq := run_eql_iface_ptr_other (P := Tryd.prog) w Tryd.underlying83 Tryd.underlying227 hi hcmp hj (by rw [hjs]; decide) hne ha hb
  go_enter Tryd.func105, Tryd.ntmps105
  go_wp2
  refine wp_loop_rounds 1 ?_
  rw [rounds_succ]
  go_wp2
  go_ret
  exact ⟨rfl, rfl⟩
end Go.Proofs.YtmfchcaidfloaaaDoor
namespace Go.Proofs.YtmfchcaidfloaaaDoor
open Go.ChangeShapes Go.WideShapes Go.ChangeAt Go.RowKit
set_option linter.unusedVariables false
set_option linter.unusedSimpArgs false

/-- The variable g holds the error at a. -/
structure Sen (W : World) (g : Nat) (a : Addr) : Prop where
  lt : g < W.heap.size
  cell : W.cell? ⟨g, 0, none⟩ = some (.iface 227 (.pointer (some a)))
  row : ∃ c t, W.heap[a.block]? = some (.cells c t (0, 0))
theorem Sen.below {W W' : World} {g : Nat} {a : Addr} (h : Sen W g a) (hb : Below W.heap.size W W') : Sen W' g a := by
  obtain ⟨c, t, e⟩ := h.row
  exact ⟨Nat.lt_of_lt_of_le h.lt hb.size, (hb.cell (p := ⟨g, 0, none⟩) h.lt).trans h.cell, c, t, (hb.block _ (Array.getElem?_eq_some_iff.1 e).1).trans e⟩
/-- Where the five errors lie. -/
structure ErrA where
  r : Addr
  n : Addr
  x : Addr
  f : Addr
  s : Addr
structure Errs (W : World) (E : ErrA) : Prop where
  R : Sen W 0 E.r
  N : Sen W 1 E.n
  X : Sen W 2 E.x
  F : Sen W 3 E.f
  S : Sen W 4 E.s
  ne : [E.r, E.n, E.x, E.f, E.s].Pairwise (· ≠ ·)
theorem Errs.below {W W' : World} {E : ErrA} (h : Errs W E) (hb : Below W.heap.size W W') : Errs W' E := ⟨h.R.below hb, h.N.below hb, h.X.below hb, h.F.below hb, h.S.below hb, h.ne⟩
set_option maxRecDepth 100000 in
set_option maxHeartbeats 1000000 in
theorem code_R (E : ErrA) (w : World) (h : Errs w E) : Calls Tryd.prog 73 #[esV E.r] w fun e w' => e = .returned (.int .i64 2) ∧ w = w' := by
  have hne := h.ne
  simp only [List.pairwise_cons, List.mem_cons, List.not_mem_nil, or_false, forall_eq_or_imp, forall_eq] at hne
  have cR := h.R.cell
  have lR := h.R.lt
  unfold esV
  have HY := Lib.hid (is_yes E.r w)
  clear hne h
  go_enter Tryd.func73, Tryd.ntmps73
  go_wp2_with fail
  refine (HY.out).mono ?_
  rintro e w1 ⟨rfl, rfl⟩
  go_wp2
  go_ret
  exact ⟨rfl, rfl⟩
set_option maxRecDepth 100000 in
set_option maxHeartbeats 1000000 in
theorem code_N (E : ErrA) (w : World) (h : Errs w E) : Calls Tryd.prog 73 #[esV E.n] w fun e w' => e = .returned (.int .i64 3) ∧ w = w' := by
  have hne := h.ne
  simp only [List.pairwise_cons, List.mem_cons, List.not_mem_nil, or_false, forall_eq_or_imp, forall_eq] at hne
  have cR := h.R.cell
  have lR := h.R.lt
  have cN := h.N.cell
  have lN := h.N.lt
  obtain ⟨dR, tR, bR⟩ := h.R.row
  obtain ⟨dN, tN, bN⟩ := h.N.row
  have nR : E.n ≠ E.r := by intro e; simp [e] at hne
  unfold esV
  have HR := Lib.hid (fun (w0 : World) (e : w = w0) => is_no E.n E.r dN dR tN tR w0 nR (e ▸ bN) (e ▸ bR))
  have HY := Lib.hid (is_yes E.n w)
  clear hne nR h
  clear bR bN
  go_enter Tryd.func73, Tryd.ntmps73
  go_wp2_with fail
  refine (HR.out _ rfl).mono ?_
  rintro e w1 ⟨rfl, rfl⟩
  go_wp2_with fail
  refine (HY.out).mono ?_
  rintro e w1 ⟨rfl, rfl⟩
  go_wp2
  go_ret
  exact ⟨rfl, rfl⟩
set_option maxRecDepth 100000 in
set_option maxHeartbeats 1000000 in
theorem code_X (E : ErrA) (w : World) (h : Errs w E) : Calls Tryd.prog 73 #[esV E.x] w fun e w' => e = .returned (.int .i64 4) ∧ w = w' := by
  have hne := h.ne
  simp only [List.pairwise_cons, List.mem_cons, List.not_mem_nil, or_false, forall_eq_or_imp, forall_eq] at hne
  have cR := h.R.cell
  have lR := h.R.lt
  have cN := h.N.cell
  have lN := h.N.lt
  have cX := h.X.cell
  have lX := h.X.lt
  obtain ⟨dR, tR, bR⟩ := h.R.row
  obtain ⟨dN, tN, bN⟩ := h.N.row
  obtain ⟨dX, tX, bX⟩ := h.X.row
  have nR : E.x ≠ E.r := by intro e; simp [e] at hne
  have nN : E.x ≠ E.n := by intro e; simp [e] at hne
  unfold esV
  have HR := Lib.hid (fun (w0 : World) (e : w = w0) => is_no E.x E.r dX dR tX tR w0 nR (e ▸ bX) (e ▸ bR))
  have HN := Lib.hid (fun (w0 : World) (e : w = w0) => is_no E.x E.n dX dN tX tN w0 nN (e ▸ bX) (e ▸ bN))
  have HY := Lib.hid (is_yes E.x w)
  clear hne nR nN h
  clear bR bN bX
  go_enter Tryd.func73, Tryd.ntmps73
  go_wp2_with fail
  refine (HR.out _ rfl).mono ?_
  rintro e w1 ⟨rfl, rfl⟩
  go_wp2_with fail
  refine (HN.out _ rfl).mono ?_
  rintro e w1 ⟨rfl, rfl⟩
  go_wp2_with fail
  refine (HY.out).mono ?_
  rintro e w1 ⟨rfl, rfl⟩
  go_wp2
  go_ret
  exact ⟨rfl, rfl⟩
set_option maxRecDepth 100000 in
set_option maxHeartbeats 1000000 in
theorem code_F (E : ErrA) (w : World) (h : Errs w E) : Calls Tryd.prog 73 #[esV E.f] w fun e w' => e = .returned (.int .i64 5) ∧ w = w' := by
  have hne := h.ne
  simp only [List.pairwise_cons, List.mem_cons, List.not_mem_nil, or_false, forall_eq_or_imp, forall_eq] at hne
  have cR := h.R.cell
  have lR := h.R.lt
  have cN := h.N.cell
  have lN := h.N.lt
  have cX := h.X.cell
  have lX := h.X.lt
  have cF := h.F.cell
  have lF := h.F.lt
  obtain ⟨dR, tR, bR⟩ := h.R.row
  obtain ⟨dN, tN, bN⟩ := h.N.row
  obtain ⟨dX, tX, bX⟩ := h.X.row
  obtain ⟨dF, tF, bF⟩ := h.F.row
  have nR : E.f ≠ E.r := by intro e; simp [e] at hne
  have nN : E.f ≠ E.n := by intro e; simp [e] at hne
  have nX : E.f ≠ E.x := by intro e; simp [e] at hne
  unfold esV
  have HR := Lib.hid (fun (w0 : World) (e : w = w0) => is_no E.f E.r dF dR tF tR w0 nR (e ▸ bF) (e ▸ bR))
  have HN := Lib.hid (fun (w0 : World) (e : w = w0) => is_no E.f E.n dF dN tF tN w0 nN (e ▸ bF) (e ▸ bN))
  have HX := Lib.hid (fun (w0 : World) (e : w = w0) => is_no E.f E.x dF dX tF tX w0 nX (e ▸ bF) (e ▸ bX))
  have HY := Lib.hid (is_yes E.f w)
  clear hne nR nN nX h
  clear bR bN bX bF
  go_enter Tryd.func73, Tryd.ntmps73
  go_wp2_with fail
  refine (HR.out _ rfl).mono ?_
  rintro e w1 ⟨rfl, rfl⟩
  go_wp2_with fail
  refine (HN.out _ rfl).mono ?_
  rintro e w1 ⟨rfl, rfl⟩
  go_wp2_with fail
  refine (HX.out _ rfl).mono ?_
  rintro e w1 ⟨rfl, rfl⟩
  go_wp2_with fail
  refine (HY.out).mono ?_
  rintro e w1 ⟨rfl, rfl⟩
  go_wp2
  go_ret
  exact ⟨rfl, rfl⟩
set_option maxRecDepth 100000 in
set_option maxHeartbeats 1000000 in
theorem code_S (E : ErrA) (w : World) (h : Errs w E) : Calls Tryd.prog 73 #[esV E.s] w fun e w' => e = .returned (.int .i64 6) ∧ w = w' := by
  have hne := h.ne
  simp only [List.pairwise_cons, List.mem_cons, List.not_mem_nil, or_false, forall_eq_or_imp, forall_eq] at hne
  have cR := h.R.cell
  have lR := h.R.lt
  have cN := h.N.cell
  have lN := h.N.lt
  have cX := h.X.cell
  have lX := h.X.lt
  have cF := h.F.cell
  have lF := h.F.lt
  have cS := h.S.cell
  have lS := h.S.lt
  obtain ⟨dR, tR, bR⟩ := h.R.row
  obtain ⟨dN, tN, bN⟩ := h.N.row
  obtain ⟨dX, tX, bX⟩ := h.X.row
  obtain ⟨dF, tF, bF⟩ := h.F.row
  obtain ⟨dS, tS, bS⟩ := h.S.row
  have nR : E.s ≠ E.r := by intro e; simp [e] at hne
  have nN : E.s ≠ E.n := by intro e; simp [e] at hne
  have nX : E.s ≠ E.x := by intro e; simp [e] at hne
  have nF : E.s ≠ E.f := by intro e; simp [e] at hne
  unfold esV
  have HR := Lib.hid (fun (w0 : World) (e : w = w0) => is_no E.s E.r dS dR tS tR w0 nR (e ▸ bS) (e ▸ bR))
  have HN := Lib.hid (fun (w0 : World) (e : w = w0) => is_no E.s E.n dS dN tS tN w0 nN (e ▸ bS) (e ▸ bN))
  have HX := Lib.hid (fun (w0 : World) (e : w = w0) => is_no E.s E.x dS dX tS tX w0 nX (e ▸ bS) (e ▸ bX))
  have HF := Lib.hid (fun (w0 : World) (e : w = w0) => is_no E.s E.f dS dF tS tF w0 nF (e ▸ bS) (e ▸ bF))
  have HY := Lib.hid (is_yes E.s w)
  clear hne nR nN nX nF h
  clear bR bN bX bF bS
  go_enter Tryd.func73, Tryd.ntmps73
  go_wp2_with fail
  refine (HR.out _ rfl).mono ?_
  rintro e w1 ⟨rfl, rfl⟩
  go_wp2_with fail
  refine (HN.out _ rfl).mono ?_
  rintro e w1 ⟨rfl, rfl⟩
  go_wp2_with fail
  refine (HX.out _ rfl).mono ?_
  rintro e w1 ⟨rfl, rfl⟩
  go_wp2_with fail
  refine (HF.out _ rfl).mono ?_
  rintro e w1 ⟨rfl, rfl⟩
  go_wp2_with fail
  refine (HY.out).mono ?_
  rintro e w1 ⟨rfl, rfl⟩
  go_wp2
  go_ret
  exact ⟨rfl, rfl⟩
end Go.Proofs.YtmfchcaidfloaaaDoor
namespace Go.Proofs.YtmfchcaidfloaaaDoor
open Go.ChangeShapes Go.WideShapes Go.ChangeAt Go.RowKit Go.ChangeMaps
set_option linter.unusedVariables false
set_option linter.unusedSimpArgs false

theorem laid_mem {P : Program} {w : World} : ∀ {l : List (String × DataW Unit)} {ps : List MemPlace}, DataW.LaidVars P w l ps → ∀ {n : String} {d : DataW Unit}, (n, d) ∈ l →
    ∃ g t cs fuel p, P.globalNamed n = some g ∧ (P.globals[g]?).map (·.type) = some t ∧ w.var? P n = some cs ∧ DataW.trod (fun _ => ()) P w 0 (fun _ => true) false fuel t cs.toList = some (d, p) ∧ (∀ x ∈ MemPlace.row ⟨g, 0, none⟩ cs.size, x ∈ ps) ∧ ∀ x ∈ p, x ∈ ps
  | [], _, _, _, _, hm => by cases hm
  | (n0, d0) :: r, ps, h, n, d, hm => by
    obtain ⟨g, t, cs, fuel, p, q, h1, h2, h3, h4, h5, rfl⟩ := h
    rcases List.mem_cons.1 hm with e | hr
    · cases e
      exact ⟨g, t, cs, fuel, p, h1, h2, h3, h4, fun x hx => by simp [hx], fun x hx => by simp [hx]⟩
    · obtain ⟨g', t', cs', fuel', p', k1, k2, k3, k4, k5, k6⟩ := laid_mem h5 hr
      exact ⟨g', t', cs', fuel', p', k1, k2, k3, k4, fun x hx => by simp [k5 x hx], fun x hx => by simp [k6 x hx]⟩
theorem es_star : "*" ++ "errors.errorString" = "*errors.errorString" := by decide
theorem es_row (u : TypeId) (h : Tryd.prog.typeName? 3 u = some "*errors.errorString") : u = 227 :=
  typeName_ptr_named (nm := "errors.errorString") (by rw [es_star]; kernel_rfl) (by kernel_rfl) (by decide) u (by rw [es_star]; exact h)
theorem es_cells : Tryd.prog.cellsOf 229 = 1 := by kernel_rfl
theorem es_str : Tryd.prog.cellsOf 9 = 1 := by kernel_rfl
set_option maxRecDepth 100000 in
theorem sen_of {W : World} {L : List (String × DataW Unit)} {n : String} {text : List UInt8} {g : Nat} (h : laidMet Tryd.prog L W) (hm : (n, .iface "*errors.errorString" (.ptr (.agg [.lit (.string text)]))) ∈ L)
    (hg : Tryd.prog.globalNamed n = some g) (ht : (Tryd.prog.globals[g]?).map (·.type) = some 83) : ∃ a s, Sen W g a ∧ W.cell? a = some (.string s) ∧ s.data.toList = text := by
  obtain ⟨ps, hv, _, hrows⟩ := h
  obtain ⟨g', t', cs, fuel, p, hg', ht', hv', hd, hp1, hp2⟩ := laid_mem hv hm
  obtain rfl := Option.some.inj (hg.symm.trans hg')
  obtain rfl := Option.some.inj (ht.symm.trans ht')
  obtain ⟨l⟩ := cs
  have ok : ∀ u v, l = [.iface u v] → Value.okWide Tryd.prog W .any 0 u v := fun u v e => by
    subst e
    exact (hrows g 0 (hp1 _ (by simp [MemPlace.row]))).2 u v (by simpa using World.var?_cell hg hv' 0)
  obtain ⟨a, s, rfl, hc, hs, _, rfl⟩ := errorString_of_trod Tryd.underlying83 es_row Tryd.underlying227 Tryd.underlying229 rfl rfl Tryd.underlying9 es_cells es_str hd ok
  have hcell : W.cell? ⟨g, 0, none⟩ = some (.iface 227 (.pointer (some a))) := by simpa using World.var?_cell hg hv' 0
  refine ⟨a, s, ⟨?_, hcell, (hrows a.block a.off (hp2 _ (by simp [MemPlace.row]))).1⟩, hc, hs⟩
  rcases Nat.lt_or_ge g W.heap.size with h' | h'
  · exact h'
  · simp [World.cell?, Array.getElem?_eq_none h'] at hcell
end Go.Proofs.YtmfchcaidfloaaaDoor
namespace Go.Proofs.YtmfchcaidfloaaaDoor
open Go.ChangeShapes Go.WideShapes Go.ChangeAt Go.RowKit Go.WideElems Go.ChangeMaps
set_option linter.unusedVariables false
set_option linter.unusedSimpArgs false

structure ErrsAt (W : World) : Prop where
  out : ∃ E, Errs W E
theorem ErrsAt.below {W W' : World} (h : ErrsAt W) (hb : Below W.heap.size W W') : ErrsAt W' := by
  obtain ⟨E, hE⟩ := h.out
  exact ⟨E, hE.below hb⟩
theorem gErrR : Tryd.prog.globalNamed "loop.example/g00956/impl.errRange" = some 0 := by kernel_rfl
theorem tErrR : (Tryd.prog.globals[0]?).map (·.type) = some 83 := by kernel_rfl
theorem gErrN : Tryd.prog.globalNamed "loop.example/g00956/impl.errNotFound" = some 1 := by kernel_rfl
theorem tErrN : (Tryd.prog.globals[1]?).map (·.type) = some 83 := by kernel_rfl
theorem gErrX : Tryd.prog.globalNamed "loop.example/g00956/impl.errExists" = some 2 := by kernel_rfl
theorem tErrX : (Tryd.prog.globals[2]?).map (·.type) = some 83 := by kernel_rfl
theorem gErrF : Tryd.prog.globalNamed "loop.example/g00956/impl.errFull" = some 3 := by kernel_rfl
theorem tErrF : (Tryd.prog.globals[3]?).map (·.type) = some 83 := by kernel_rfl
theorem gErrS : Tryd.prog.globalNamed "loop.example/g00956/impl.errState" = some 4 := by kernel_rfl
theorem tErrS : (Tryd.prog.globals[4]?).map (·.type) = some 83 := by kernel_rfl
theorem cells_ne {W : World} {a b : Addr} {s t : ByteArray} (ha : W.cell? a = some (.string s)) (hb : W.cell? b = some (.string t)) (h : s.data.toList ≠ t.data.toList) : a ≠ b := by
  rintro rfl
  rw [ha] at hb
  cases hb
  exact h rfl
theorem errs_of {W : World} {L : List (String × DataW Unit)} (h : laidMet Tryd.prog L W) (mR : ("loop.example/g00956/impl.errRange", Rows.laid_loop_example_g00956_impl_errRange) ∈ L) (mN : ("loop.example/g00956/impl.errNotFound", Rows.laid_loop_example_g00956_impl_errNotFound) ∈ L) (mX : ("loop.example/g00956/impl.errExists", Rows.laid_loop_example_g00956_impl_errExists) ∈ L) (mF : ("loop.example/g00956/impl.errFull", Rows.laid_loop_example_g00956_impl_errFull) ∈ L) (mS : ("loop.example/g00956/impl.errState", Rows.laid_loop_example_g00956_impl_errState) ∈ L) : ErrsAt W := by
  obtain ⟨r, sR, hR, cR, eR⟩ := sen_of h mR gErrR tErrR
  obtain ⟨n, sN, hN, cN, eN⟩ := sen_of h mN gErrN tErrN
  obtain ⟨x, sX, hX, cX, eX⟩ := sen_of h mX gErrX tErrX
  obtain ⟨f, sF, hF, cF, eF⟩ := sen_of h mF gErrF tErrF
  obtain ⟨s, sS, hS, cS, eS⟩ := sen_of h mS gErrS tErrS
  refine ⟨⟨r, n, x, f, s⟩, hR, hN, hX, hF, hS, ?_⟩
  simp only [List.pairwise_cons, List.mem_cons, List.not_mem_nil, or_false, forall_eq_or_imp, forall_eq]
  refine ⟨⟨cells_ne cR cN (by rw [eR, eN]; decide), cells_ne cR cX (by rw [eR, eX]; decide), cells_ne cR cF (by rw [eR, eF]; decide), cells_ne cR cS (by rw [eR, eS]; decide)⟩, ⟨cells_ne cN cX (by rw [eN, eX]; decide), cells_ne cN cF (by rw [eN, eF]; decide), cells_ne cN cS (by rw [eN, eS]; decide)⟩, ⟨cells_ne cX cF (by rw [eX, eF]; decide), cells_ne cX cS (by rw [eX, eS]; decide)⟩, cells_ne cF cS (by rw [eF, eS]; decide), ?_⟩
  exact ⟨fun _ hx => (by cases hx), List.Pairwise.nil⟩
/-- Can a variable of this name be told by one rule? -/
noncomputable def okVar (n : String) : Bool := match Tryd.prog.globalNamed n with
  | none => true
  | some g => match (Tryd.prog.globals[g]?).map (·.type) with
    | none => true
    | some t => Tryd.prog.readableRec t && decide (t < Tryd.prog.types.size)
theorem vars_stay {H : Type} {enc : TypeId × Value → H} {W W' : World} (hb : Below W.heap.size W W') {sp : Nat → Bool} : ∀ {ns : List String} {gs : List (DataW H)} {ps : List MemPlace}, DataW.TrodVars enc Tryd.prog W (fun _ => true) ns gs ps →
    ns.all okVar = true → (∀ p ∈ ps, sp p.block = true) → DataW.TrodVars enc Tryd.prog W' sp ns gs ps
  | [], [], _, h, _, _ => h
  | n :: ns, d :: ds, ps, h, ho, hsp => by
    have hlt := h.lt
    obtain ⟨g, t, cs, fuel, p, q, h1, h2, h3, h4, h5, rfl⟩ := h
    rw [List.all_cons, Bool.and_eq_true] at ho
    have hok := ho.1
    simp only [okVar, h1, h2, Bool.and_eq_true, decide_eq_true_eq] at hok
    have hg : g < W.heap.size := by
      rcases Nat.lt_or_ge g W.heap.size with h' | h'
      · exact h'
      · unfold World.var? at h3
        simp [h1, Array.getElem?_eq_none h'] at h3
    have h3' : W'.var? Tryd.prog n = some cs := by
      unfold World.var? at h3 ⊢
      rw [h1] at h3 ⊢
      simp only [Option.bind_some] at h3 ⊢
      rw [hb.block _ hg]; exact h3
    exact ⟨g, t, cs, fuel, p, q, h1, h2, h3', DataW.trod_stays (kids_book (by kernel_rfl) hok.1) (book_sized hok.1) (fun h => by cases h) ⟨hok.2, book_self _⟩ h4 (fun x hx => hb.same (hlt x (by simp [hx]))) (fun x hx => hsp x (by simp [hx])),
      vars_stay hb h5 ho.2 (fun x hx => hsp x (by simp [hx])), rfl⟩
theorem vars_uncons {H : Type} {enc : TypeId × Value → H} {W : World} {sp : Nat → Bool} {n : String} {ns : List String} {gs : List (DataW H)} {ps : List MemPlace} (h : DataW.TrodVars enc Tryd.prog W sp (n :: ns) gs ps) :
    ∃ d ds q, gs = d :: ds ∧ DataW.TrodVars enc Tryd.prog W sp ns ds q := by
  cases gs with
  | nil => simp [DataW.TrodVars] at h
  | cons d ds =>
    obtain ⟨g, t, cs, fuel, p, q, h1, h2, h3, h4, h5, rfl⟩ := h
    exact ⟨d, ds, q, rfl, h5⟩
theorem vars_end {H : Type} {enc : TypeId × Value → H} {W : World} {sp : Nat → Bool} {gs : List (DataW H)} {ps : List MemPlace} (h : DataW.TrodVars enc Tryd.prog W sp [] gs ps) : gs = [] := by
  cases gs with
  | nil => rfl
  | cons d ds => simp [DataW.TrodVars] at h
end Go.Proofs.YtmfchcaidfloaaaDoor
