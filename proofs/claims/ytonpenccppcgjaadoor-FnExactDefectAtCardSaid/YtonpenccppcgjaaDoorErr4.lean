/- The laid errors of a row; what a row says of its variables behind the call. -/
import Derived.Test.YtonpenccppcgjaaDoorErr3
import Derived.Test.YtonpenccppcgjaaDoorVenLaid
namespace Go.Proofs.YtonpenccppcgjaaDoor
open Go.ChangeShapes Go.WideShapes Go.ChangeAt Go.RowKit Go.WideElems Go.ChangeMaps
set_option linter.unusedVariables false
set_option linter.unusedSimpArgs false

structure ErrsAt (W : World) : Prop where
  out : ∃ E, Errs W E
theorem ErrsAt.below {W W' : World} (h : ErrsAt W) (hb : Below W.heap.size W W') : ErrsAt W' := by
  obtain ⟨E, hE⟩ := h.out
  exact ⟨E, hE.below hb⟩
theorem gErrR : Tryd.prog.globalNamed "loop.example/g00956/impl.errRange" = some 0 := by kernel_rfl
theorem tErrR : (Tryd.prog.globals[0]?).map (·.type) = some 84 := by kernel_rfl
theorem gErrN : Tryd.prog.globalNamed "loop.example/g00956/impl.errNotFound" = some 1 := by kernel_rfl
theorem tErrN : (Tryd.prog.globals[1]?).map (·.type) = some 84 := by kernel_rfl
theorem gErrX : Tryd.prog.globalNamed "loop.example/g00956/impl.errExists" = some 2 := by kernel_rfl
theorem tErrX : (Tryd.prog.globals[2]?).map (·.type) = some 84 := by kernel_rfl
theorem gErrF : Tryd.prog.globalNamed "loop.example/g00956/impl.errFull" = some 3 := by kernel_rfl
theorem tErrF : (Tryd.prog.globals[3]?).map (·.type) = some 84 := by kernel_rfl
theorem gErrS : Tryd.prog.globalNamed "loop.example/g00956/impl.errState" = some 4 := by kernel_rfl
theorem tErrS : (Tryd.prog.globals[4]?).map (·.type) = some 84 := by kernel_rfl
theorem cells_ne {W : World} {a b : Addr} {s t : ByteArray} (ha : W.cell? a = some (.string s)) (hb : W.cell? b = some (.string t)) (h : s.data.toList ≠ t.data.toList) : a ≠ b := by
  rintro rfl
  rw [ha] at hb
  cases hb
  exact h rfl
theorem errs_of {W : World} {L : List (String × DataW Unit)} (h : laidMet Tryd.prog L W) (mR : ("loop.example/g00956/impl.errRange", Rows.laid_loop_example_g00956_impl_errRange) ∈ L) (mN : ("loop.example/g00956/impl.errNotFound", Rows.laid_loop_example_g00956_impl_errNotFound) ∈ L) (mX : ("loop.example/g00956/impl.errExists", Rows.laid_loop_example_g00956_impl_errExists) ∈ L) (mF : ("loop.example/g00956/impl.errFull", Rows.laid_loop_example_g00956_impl_errFull) ∈ L) (mS : ("loop.example/g00956/impl.errState", Rows.laid_loop_example_g00956_impl_errState) ∈ L) : ErrsAt W := by
  obtain ⟨r, sR, hR, cR, eR⟩ := sen_of h mR gErrR tErrR
  obtain ⟨n, sN, hN, cN, eN⟩ := sen_of h mN gErrN tErrN
  obtain ⟨x, sX, hX, cX, eX⟩ := sen_of h mX gErrX tErrX
  obtain ⟨f, sF, hF, cF, eF⟩ := sen_of h mF gErrF tErrF
  obtain ⟨s, sS, hS, cS, eS⟩ := sen_of h mS gErrS tErrS
  refine ⟨⟨r, n, x, f, s⟩, hR, hN, hX, hF, hS, ?_⟩
  simp only [List.pairwise_cons, List.mem_cons, List.not_mem_nil, or_false, forall_eq_or_imp, forall_eq]
  refine ⟨⟨cells_ne cR cN (by rw [eR, eN]; decide), cells_ne cR cX (by rw [eR, eX]; decide), cells_ne cR cF (by rw [eR, eF]; decide), cells_ne cR cS (by rw [eR, eS]; decide)⟩, ⟨cells_ne cN cX (by rw [eN, eX]; decide), cells_ne cN cF (by rw [eN, eF]; decide), cells_ne cN cS (by rw [eN, eS]; decide)⟩, ⟨cells_ne cX cF (by rw [eX, eF]; decide), cells_ne cX cS (by rw [eX, eS]; decide)⟩, cells_ne cF cS (by rw [eF, eS]; decide), ?_⟩
  exact ⟨fun _ hx => (by cases hx), List.Pairwise.nil⟩
/-- Can a variable of this name be told by one rule? -/
noncomputable def okVar (n : String) : Bool := match Tryd.prog.globalNamed n with
  | none => true
  | some g => match (Tryd.prog.globals[g]?).map (·.type) with
    | none => true
    | some t => Tryd.prog.readableRec t && decide (t < Tryd.prog.types.size)
theorem vars_stay {H : Type} {enc : TypeId × Value → H} {W W' : World} (hb : Below W.heap.size W W') {sp : Nat → Bool} : ∀ {ns : List String} {gs : List (DataW H)} {ps : List MemPlace}, DataW.TrodVars enc Tryd.prog W (fun _ => true) ns gs ps →
    ns.all okVar = true → (∀ p ∈ ps, sp p.block = true) → DataW.TrodVars enc Tryd.prog W' sp ns gs ps
  | [], [], _, h, _, _ => h
  | n :: ns, d :: ds, ps, h, ho, hsp => by
    have hlt := h.lt
    obtain ⟨g, t, cs, fuel, p, q, h1, h2, h3, h4, h5, rfl⟩ := h
    rw [List.all_cons, Bool.and_eq_true] at ho
    have hok := ho.1
    simp only [okVar, h1, h2, Bool.and_eq_true, decide_eq_true_eq] at hok
    have hg : g < W.heap.size := by
      rcases Nat.lt_or_ge g W.heap.size with h' | h'
      · exact h'
      · unfold World.var? at h3
        simp [h1, Array.getElem?_eq_none h'] at h3
    have h3' : W'.var? Tryd.prog n = some cs := by
      unfold World.var? at h3 ⊢
      rw [h1] at h3 ⊢
      simp only [Option.bind_some] at h3 ⊢
      rw [hb.block _ hg]; exact h3
    exact ⟨g, t, cs, fuel, p, q, h1, h2, h3', DataW.trod_stays (kids_book (by kernel_rfl) hok.1) (book_sized hok.1) (fun h => by cases h) ⟨hok.2, book_self _⟩ h4 (fun x hx => hb.same (hlt x (by simp [hx]))) (fun x hx => hsp x (by simp [hx])),
      vars_stay hb h5 ho.2 (fun x hx => hsp x (by simp [hx])), rfl⟩
theorem vars_uncons {H : Type} {enc : TypeId × Value → H} {W : World} {sp : Nat → Bool} {n : String} {ns : List String} {gs : List (DataW H)} {ps : List MemPlace} (h : DataW.TrodVars enc Tryd.prog W sp (n :: ns) gs ps) :
    ∃ d ds q, gs = d :: ds ∧ DataW.TrodVars enc Tryd.prog W sp ns ds q := by
  cases gs with
  | nil => simp [DataW.TrodVars] at h
  | cons d ds =>
    obtain ⟨g, t, cs, fuel, p, q, h1, h2, h3, h4, h5, rfl⟩ := h
    exact ⟨d, ds, q, rfl, h5⟩
theorem vars_end {H : Type} {enc : TypeId × Value → H} {W : World} {sp : Nat → Bool} {gs : List (DataW H)} {ps : List MemPlace} (h : DataW.TrodVars enc Tryd.prog W sp [] gs ps) : gs = [] := by
  cases gs with
  | nil => rfl
  | cons d ds => simp [DataW.TrodVars] at h
end Go.Proofs.YtonpenccppcgjaaDoor
