/- The errors of impl as the program text lays them; their codes. -/
import Derived.Test.YtonpenccppcgjaaDoorErr1
namespace Go.Proofs.YtonpenccppcgjaaDoor
open Go.ChangeShapes Go.WideShapes Go.ChangeAt Go.RowKit
set_option linter.unusedVariables false
set_option linter.unusedSimpArgs false

/-- The variable g holds the error at a. -/
structure Sen (W : World) (g : Nat) (a : Addr) : Prop where
  lt : g < W.heap.size
  cell : W.cell? ⟨g, 0, none⟩ = some (.iface 236 (.pointer (some a)))
  row : ∃ c t, W.heap[a.block]? = some (.cells c t (0, 0))
theorem Sen.below {W W' : World} {g : Nat} {a : Addr} (h : Sen W g a) (hb : Below W.heap.size W W') : Sen W' g a := by
  obtain ⟨c, t, e⟩ := h.row
  exact ⟨Nat.lt_of_lt_of_le h.lt hb.size, (hb.cell (p := ⟨g, 0, none⟩) h.lt).trans h.cell, c, t, (hb.block _ (Array.getElem?_eq_some_iff.1 e).1).trans e⟩
/-- Where the five errors lie. -/
structure ErrA where
  r : Addr
  n : Addr
  x : Addr
  f : Addr
  s : Addr
structure Errs (W : World) (E : ErrA) : Prop where
  R : Sen W 0 E.r
  N : Sen W 1 E.n
  X : Sen W 2 E.x
  F : Sen W 3 E.f
  S : Sen W 4 E.s
  ne : [E.r, E.n, E.x, E.f, E.s].Pairwise (· ≠ ·)
theorem Errs.below {W W' : World} {E : ErrA} (h : Errs W E) (hb : Below W.heap.size W W') : Errs W' E := ⟨h.R.below hb, h.N.below hb, h.X.below hb, h.F.below hb, h.S.below hb, h.ne⟩
set_option maxRecDepth 100000 in
set_option maxHeartbeats 1000000 in
theorem code_R (E : ErrA) (w : World) (h : Errs w E) : Calls Tryd.prog 107 #[esV E.r] w fun e w' => e = .returned (.int .i64 2) ∧ w = w' := by
  have hne := h.ne
  simp only [List.pairwise_cons, List.mem_cons, List.not_mem_nil, or_false, forall_eq_or_imp, forall_eq] at hne
  have cR := h.R.cell
  have lR := h.R.lt
  unfold esV
  have HY := Lib.hid (is_yes E.r w)
  clear hne h
  go_enter Tryd.func107, Tryd.ntmps107
  go_wp2_with fail
  refine (HY.out).mono ?_
  rintro e w1 ⟨rfl, rfl⟩
  go_wp2
  go_ret
  exact ⟨rfl, rfl⟩
set_option maxRecDepth 100000 in
set_option maxHeartbeats 1000000 in
theorem code_N (E : ErrA) (w : World) (h : Errs w E) : Calls Tryd.prog 107 #[esV E.n] w fun e w' => e = .returned (.int .i64 3) ∧ w = w' := by
  have hne := h.ne
  simp only [List.pairwise_cons, List.mem_cons, List.not_mem_nil, or_false, forall_eq_or_imp, forall_eq] at hne
  have cR := h.R.cell
  have lR := h.R.lt
  have cN := h.N.cell
  have lN := h.N.lt
  obtain ⟨dR, tR, bR⟩ := h.R.row
  obtain ⟨dN, tN, bN⟩ := h.N.row
  have nR : E.n ≠ E.r := by intro e; simp [e] at hne
  unfold esV
  have HR := Lib.hid (fun (w0 : World) (e : w = w0) => is_no E.n E.r dN dR tN tR w0 nR (e ▸ bN) (e ▸ bR))
  have HY := Lib.hid (is_yes E.n w)
  clear hne nR h
  clear bR bN
  go_enter Tryd.func107, Tryd.ntmps107
  go_wp2_with fail
  refine (HR.out _ rfl).mono ?_
  rintro e w1 ⟨rfl, rfl⟩
  go_wp2_with fail
  refine (HY.out).mono ?_
  rintro e w1 ⟨rfl, rfl⟩
  go_wp2
  go_ret
  exact ⟨rfl, rfl⟩
set_option maxRecDepth 100000 in
set_option maxHeartbeats 1000000 in
theorem code_X (E : ErrA) (w : World) (h : Errs w E) : Calls Tryd.prog 107 #[esV E.x] w fun e w' => e = .returned (.int .i64 4) ∧ w = w' := by
  have hne := h.ne
  simp only [List.pairwise_cons, List.mem_cons, List.not_mem_nil, or_false, forall_eq_or_imp, forall_eq] at hne
  have cR := h.R.cell
  have lR := h.R.lt
  have cN := h.N.cell
  have lN := h.N.lt
  have cX := h.X.cell
  have lX := h.X.lt
  obtain ⟨dR, tR, bR⟩ := h.R.row
  obtain ⟨dN, tN, bN⟩ := h.N.row
  obtain ⟨dX, tX, bX⟩ := h.X.row
  have nR : E.x ≠ E.r := by intro e; simp [e] at hne
  have nN : E.x ≠ E.n := by intro e; simp [e] at hne
  unfold esV
  have HR := Lib.hid (fun (w0 : World) (e : w = w0) => is_no E.x E.r dX dR tX tR w0 nR (e ▸ bX) (e ▸ bR))
  have HN := Lib.hid (fun (w0 : World) (e : w = w0) => is_no E.x E.n dX dN tX tN w0 nN (e ▸ bX) (e ▸ bN))
  have HY := Lib.hid (is_yes E.x w)
  clear hne nR nN h
  clear bR bN bX
  go_enter Tryd.func107, Tryd.ntmps107
  go_wp2_with fail
  refine (HR.out _ rfl).mono ?_
  rintro e w1 ⟨rfl, rfl⟩
  go_wp2_with fail
  refine (HN.out _ rfl).mono ?_
  rintro e w1 ⟨rfl, rfl⟩
  go_wp2_with fail
  refine (HY.out).mono ?_
  rintro e w1 ⟨rfl, rfl⟩
  go_wp2
  go_ret
  exact ⟨rfl, rfl⟩
set_option maxRecDepth 100000 in
set_option maxHeartbeats 1000000 in
theorem code_F (E : ErrA) (w : World) (h : Errs w E) : Calls Tryd.prog 107 #[esV E.f] w fun e w' => e = .returned (.int .i64 5) ∧ w = w' := by
  have hne := h.ne
  simp only [List.pairwise_cons, List.mem_cons, List.not_mem_nil, or_false, forall_eq_or_imp, forall_eq] at hne
  have cR := h.R.cell
  have lR := h.R.lt
  have cN := h.N.cell
  have lN := h.N.lt
  have cX := h.X.cell
  have lX := h.X.lt
  have cF := h.F.cell
  have lF := h.F.lt
  obtain ⟨dR, tR, bR⟩ := h.R.row
  obtain ⟨dN, tN, bN⟩ := h.N.row
  obtain ⟨dX, tX, bX⟩ := h.X.row
  obtain ⟨dF, tF, bF⟩ := h.F.row
  have nR : E.f ≠ E.r := by intro e; simp [e] at hne
  have nN : E.f ≠ E.n := by intro e; simp [e] at hne
  have nX : E.f ≠ E.x := by intro e; simp [e] at hne
  unfold esV
  have HR := Lib.hid (fun (w0 : World) (e : w = w0) => is_no E.f E.r dF dR tF tR w0 nR (e ▸ bF) (e ▸ bR))
  have HN := Lib.hid (fun (w0 : World) (e : w = w0) => is_no E.f E.n dF dN tF tN w0 nN (e ▸ bF) (e ▸ bN))
  have HX := Lib.hid (fun (w0 : World) (e : w = w0) => is_no E.f E.x dF dX tF tX w0 nX (e ▸ bF) (e ▸ bX))
  have HY := Lib.hid (is_yes E.f w)
  clear hne nR nN nX h
  clear bR bN bX bF
  go_enter Tryd.func107, Tryd.ntmps107
  go_wp2_with fail
  refine (HR.out _ rfl).mono ?_
  rintro e w1 ⟨rfl, rfl⟩
  go_wp2_with fail
  refine (HN.out _ rfl).mono ?_
  rintro e w1 ⟨rfl, rfl⟩
  go_wp2_with fail
  refine (HX.out _ rfl).mono ?_
  rintro e w1 ⟨rfl, rfl⟩
  go_wp2_with fail
  refine (HY.out).mono ?_
  rintro e w1 ⟨rfl, rfl⟩
  go_wp2
  go_ret
  exact ⟨rfl, rfl⟩
set_option maxRecDepth 100000 in
set_option maxHeartbeats 1000000 in
theorem code_S (E : ErrA) (w : World) (h : Errs w E) : Calls Tryd.prog 107 #[esV E.s] w fun e w' => e = .returned (.int .i64 6) ∧ w = w' := by
  have hne := h.ne
  simp only [List.pairwise_cons, List.mem_cons, List.not_mem_nil, or_false, forall_eq_or_imp, forall_eq] at hne
  have cR := h.R.cell
  have lR := h.R.lt
  have cN := h.N.cell
  have lN := h.N.lt
  have cX := h.X.cell
  have lX := h.X.lt
  have cF := h.F.cell
  have lF := h.F.lt
  have cS := h.S.cell
  have lS := h.S.lt
  obtain ⟨dR, tR, bR⟩ := h.R.row
  obtain ⟨dN, tN, bN⟩ := h.N.row
  obtain ⟨dX, tX, bX⟩ := h.X.row
  obtain ⟨dF, tF, bF⟩ := h.F.row
  obtain ⟨dS, tS, bS⟩ := h.S.row
  have nR : E.s ≠ E.r := by intro e; simp [e] at hne
  have nN : E.s ≠ E.n := by intro e; simp [e] at hne
  have nX : E.s ≠ E.x := by intro e; simp [e] at hne
  have nF : E.s ≠ E.f := by intro e; simp [e] at hne
  unfold esV
  have HR := Lib.hid (fun (w0 : World) (e : w = w0) => is_no E.s E.r dS dR tS tR w0 nR (e ▸ bS) (e ▸ bR))
  have HN := Lib.hid (fun (w0 : World) (e : w = w0) => is_no E.s E.n dS dN tS tN w0 nN (e ▸ bS) (e ▸ bN))
  have HX := Lib.hid (fun (w0 : World) (e : w = w0) => is_no E.s E.x dS dX tS tX w0 nX (e ▸ bS) (e ▸ bX))
  have HF := Lib.hid (fun (w0 : World) (e : w = w0) => is_no E.s E.f dS dF tS tF w0 nF (e ▸ bS) (e ▸ bF))
  have HY := Lib.hid (is_yes E.s w)
  clear hne nR nN nX nF h
  clear bR bN bX bF bS
  go_enter Tryd.func107, Tryd.ntmps107
  go_wp2_with fail
  refine (HR.out _ rfl).mono ?_
  rintro e w1 ⟨rfl, rfl⟩
  go_wp2_with fail
  refine (HN.out _ rfl).mono ?_
  rintro e w1 ⟨rfl, rfl⟩
  go_wp2_with fail
  refine (HX.out _ rfl).mono ?_
  rintro e w1 ⟨rfl, rfl⟩
  go_wp2_with fail
  refine (HF.out _ rfl).mono ?_
  rintro e w1 ⟨rfl, rfl⟩
  go_wp2_with fail
  refine (HY.out).mono ?_
  rintro e w1 ⟨rfl, rfl⟩
  go_wp2
  go_ret
  exact ⟨rfl, rfl⟩
end Go.Proofs.YtonpenccppcgjaaDoor
