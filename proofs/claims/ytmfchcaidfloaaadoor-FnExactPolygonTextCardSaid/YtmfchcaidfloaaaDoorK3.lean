/- Several texts in one: PlanIn, Seq, Mx, Seq2. -/
import Derived.Test.YtmfchcaidfloaaaDoorPlan
import Derived.Test.YtmfchcaidfloaaaDoorK1
import Derived.Lib.Hide
import Derived.LoopTactic
namespace Go.Proofs.YtmfchcaidfloaaaDoor
open Go.ChangeShapes Go.WideShapes Go.ChangeAt Go.RowKit

theorem wpIn_region_plan_env {P : Program} {F : Fence} {n0 id : Nat} {a : Act} {w : World} {l : List Oper} {Q : Exit → Act → World → Prop} (hF : Grants F n0 P l.toArray) (m : Nat) (tl : List Nat) (w0 : World) (es : List Made) (specs : List Spec) (hm : P.follows .mixedOrders = true) (hsel : Region.noSelect l.toArray = true)
    (hlen : specs.length + m = l.toArray.size) (hk : ∀ x, x ∈ es → l.toArray.size ≤ x.key) (hone : ∀ x y, x ∈ es → y ∈ es → (x.key = y.key ∨ x.blk = y.blk) → x = y) (hb : Below w0.heap.size w0 w) (hes : ∀ x, x ∈ es → w0.heap.size ≤ x.blk ∧ x.blk < w.heap.size ∧ w.heap[x.blk]? = some x.obj)
    (h : PL P l.toArray .any w0 (wpAnyIn F n0 P .any l.toArray Q m) tl 0 l specs (fun x => x ∈ es) (Array.replicate l.toArray.size false) a) : (Code.region id l.toArray true).wpIn F n0 P Q a w := by
  refine wpIn_region_any hm ?_
  have h2 := Plan.sound (tl := tl) (w0 := w0) hF m hsel _ specs (fun x => x ∈ es) _ a { w with drawn := w.drawn + 1 } rfl ⟨fun x hx => Or.inr (hk x hx), hone, ⟨w.heap.size, fun x hx => (hes x hx).2.1⟩⟩ (Closed.none _ _ _) (h.out (by simp)) ⟨⟨hb.os, hb.tape, hb.output, hb.size, hb.block⟩, hes⟩
  rw [hlen] at h2
  exact h2
theorem plan_end {P : Program} {ops : Array Oper} {md : Region.Mode} {w0 : World} {F : Fence} {n0 : Nat} {Q : Exit → Act → World → Prop} {k : Nat} {env : Made → Prop} {listed : Array Bool} {a : Act} (fn : ∀ f, F.fn f) (hr : (Region.ready md ops listed).isEmpty = true) (h : ∀ w, Cl w0 env w → Q .normal a w) : PL P ops md w0 (wpAnyIn F n0 P md ops Q 0) [] k [] [] env listed a :=
  plan_tail fn (by rw [List.isEmpty_iff] at hr; rw [hr]; rfl) hr rfl h
end Go.Proofs.YtmfchcaidfloaaaDoor
namespace Go.Proofs.YtmfchcaidfloaaaDoor
open Go.ChangeShapes Go.WideShapes Go.ChangeAt Go.RowKit

section
variable {P : Program} {F : Fence} {n0 : Nat} {ops : Array Oper} {md : Region.Mode} {w0 : World} {Q : Exit → Act → World → Prop}
/-- What one operation of the row may end in. -/
def chQ (K : Act → World → Prop) (Q : Exit → Act → World → Prop) : Exit → Act → World → Prop
  | .normal, a, w => K a w
  | .outgrown, a, w => Q .outgrown a w
  | _, _, _ => False
/-- The row: one after another. -/
def Ch (P : Program) (F : Fence) (n0 : Nat) (ops : Array Oper) (md : Region.Mode) (w0 : World) (Q : Exit → Act → World → Prop) : List Nat → Array Bool → Act → World → Prop
  | [], listed, a, w => Region.ready md ops listed = [] ∧ Q .normal a w
  | k :: C, listed, a, w => Region.ready md ops listed = [k] ∧ ∃ o, ops[k]? = some o ∧
      wpListIn F n0 P ops (chQ (fun a' w' => Below w0.heap.size w0 w' ∧ Ch P F n0 ops md w0 Q C (listed.setIfInBounds k true) a' w') Q) [o] a w
/-- The values may be taken at any time. -/
def PureAt (P : Program) (ops : Array Oper) (w0 : World) (o : Oper) (v : Value) (a : Act) : Prop :=
  (Region.wanted o (yielded ops a.tmps) = true ∧ ∀ w, Below w0.heap.size w0 w → (execOp a.eval o).run P w = .ok (.value v) w) ∨ (Region.wanted o (yielded ops a.tmps) = false ∧ v = undef)
def Flo (P : Program) (ops : Array Oper) (md : Region.Mode) (w0 : World) (E : Array Bool → Act → World → Prop) : List (Nat × Value) → Array Bool → Act → World → Prop
  | [], listed, a, w => E listed a w
  | s :: r, listed, a, w => FreeP ops md listed s.1 ∧ s.1 ∈ Region.ready md ops listed ∧ ∃ o, ops[s.1]? = some o ∧ PureAt P ops w0 o s.2 a ∧ Flo P ops md w0 E r (listed.setIfInBounds s.1 true) (a.put o.dst s.2) w

theorem PureAt.same {o : Oper} {v : Value} {a a' : Act} (h : PureAt P ops w0 o v a) (he : execOp a'.eval o = execOp a.eval o) (hw : Region.wanted o (yielded ops a'.tmps) = Region.wanted o (yielded ops a.tmps)) : PureAt P ops w0 o v a' := by
  unfold PureAt at *
  rw [he, hw]
  exact h
/-- What two operations that may change places have in common. -/
structure Pass (ops : Array Oper) (md : Region.Mode) (listed : Array Bool) (i j : Nat) (oi oj : Oper) : Prop where
  ej : ∀ (a : Act) (u : Value), execOp (a.put oi.dst u).eval oj = execOp a.eval oj
  wj : ∀ (a : Act) (u : Value), Region.wanted oj (yielded ops (a.put oi.dst u).tmps) = Region.wanted oj (yielded ops a.tmps)
  ei : ∀ (a : Act) (u : Value), execOp (a.put oj.dst u).eval oi = execOp a.eval oi
  wi : ∀ (a : Act) (u : Value), Region.wanted oi (yielded ops (a.put oj.dst u).tmps) = Region.wanted oi (yielded ops a.tmps)
  cm : ∀ (a : Act) (v u : Value), (a.put oi.dst v).put oj.dst u = (a.put oj.dst u).put oi.dst v
  lc : (listed.setIfInBounds i true).setIfInBounds j true = (listed.setIfInBounds j true).setIfInBounds i true
  jr : j ∈ Region.ready md ops (listed.setIfInBounds i true)
  ir : i ∈ Region.ready md ops (listed.setIfInBounds j true)
  fr : FreeP ops md (listed.setIfInBounds j true) i
theorem pass_of (hsel : Region.noSelect ops = true) {listed : Array Bool} {i j : Nat} {oi oj : Oper} (hfree : FreeP ops md listed i) (hr : i ∈ Region.ready md ops listed) (hj : j ∈ Region.ready md ops listed) (hij : i ≠ j) (hoi : ops[i]? = some oi) (hoj : ops[j]? = some oj) : Pass ops md listed i j oi oj := by
  have hunl := (mem_ready.1 hr).1
  obtain ⟨hjun, oj', hoj', hall⟩ := mem_ready.1 hj
  rw [hoj] at hoj'
  obtain rfl := Option.some.inj hoj'
  have hnot : ∀ e ∈ oj.after, Region.binds md e = true → e.on ≠ i := fun e he hb heq => by
    have := hall e he hb
    rw [heq, unlisted_no hunl] at this
    cases this
  obtain ⟨h1, h2, h3⟩ := Oper.apart_spec (hfree oi hoi j oj hoj (Ne.symm hij) hjun hnot)
  have si := fun cs b => Region.noSelect_spec hsel i oi cs b hoi
  have sj := fun cs b => Region.noSelect_spec hsel j oj cs b hoj
  exact ⟨fun a u => execOp_put oj sj a oi.dst u h1, fun a u => wanted_put oj a oi.dst u h1, fun a u => execOp_put oi si a oj.dst u h3, fun a u => wanted_put oi a oj.dst u h3, fun a v u => Act.put_comm a v u h2,
    Array.setIfInBounds_comm _ _ hij, ready_mono hj (Ne.symm hij), ready_mono hr hij, hfree.set⟩
/-- A value that comes up may be taken first. -/
theorem Flo.front {E : Array Bool → Act → World → Prop} (hsel : Region.noSelect ops = true) : ∀ (L : List (Nat × Value)) (listed : Array Bool) (a : Act) (w : World), Flo P ops md w0 E L listed a w → ∀ j, j ∈ Region.ready md ops listed → j ∈ L.map (·.1) →
    ∃ u oj, ops[j]? = some oj ∧ PureAt P ops w0 oj u a ∧ ∃ L', L'.length + 1 = L.length ∧ (∀ t, t ∈ L'.map (·.1) → t ∈ L.map (·.1)) ∧ Flo P ops md w0 E L' (listed.setIfInBounds j true) (a.put oj.dst u) w := by
  intro L
  induction L with
  | nil => intro _ _ _ _ _ _ h; cases h
  | cons s r ih =>
    intro listed a w h j hj hjL
    obtain ⟨hfree, hr, oi, hoi, hp, hK⟩ := h
    by_cases hij : s.1 = j
    · exact ⟨s.2, oi, by rw [← hij]; exact hoi, hp, r, rfl, fun t ht => List.mem_cons_of_mem _ ht, by rw [← hij]; exact hK⟩
    have hjr : j ∈ r.map (·.1) := by
      rcases List.mem_cons.1 hjL with h | h
      · exact absurd h.symm hij
      · exact h
    obtain ⟨_, oj, hoj, _⟩ := mem_ready.1 hj
    have X := pass_of hsel hfree hr hj hij hoi hoj
    obtain ⟨u, oj', hoj', hpu, L', hl, hsub, hF⟩ := ih _ _ _ hK j X.jr hjr
    rw [hoj] at hoj'
    obtain rfl := Option.some.inj hoj'
    refine ⟨u, oj, hoj, hpu.same (X.ej a s.2).symm (X.wj a s.2).symm, s :: L', by simp [hl], fun t ht => ?_, X.fr, X.ir, oi, hoi, hp.same (X.ei a u) (X.wi a u), ?_⟩
    · rcases List.mem_cons.1 ht with rfl | h
      · exact List.mem_cons_self
      · exact List.mem_cons_of_mem _ (hsub t h)
    · rw [← X.lc, ← X.cm]; exact hF
/-- An operation of the row: before a value or behind it. -/
theorem one_under (hF : Grants F n0 P ops) {j : Nat} {oj : Oper} (hoj : ops[j]? = some oj) {d : Option Tmp} {v : Value} {a : Act} {w : World} {K : Act → World → Prop}
    (he : execOp (a.put d v).eval oj = execOp a.eval oj) (hw : Region.wanted oj (yielded ops (a.put d v).tmps) = Region.wanted oj (yielded ops a.tmps)) (cm : ∀ (a : Act) (u : Value), (a.put d v).put oj.dst u = (a.put oj.dst u).put d v)
    (h : wpListIn F n0 P ops (chQ K Q) [oj] (a.put d v) w) : wpListIn F n0 P ops (chQ (fun a' w' => K (a'.put d v) w') Q) [oj] a w := by
  simp only [wpListIn] at h ⊢
  rw [hw] at h
  split
  · rename_i hy
    rw [if_pos hy] at h
    refine ⟨fun f _ => hF.fn f, ?_⟩
    have h := h.2
    rw [hF.sem j oj hoj] at h ⊢
    rw [he] at h
    have cmd : ∀ (x : Deferred) (u : Value), Act.put { a.put d v with defers := x :: (a.put d v).defers } oj.dst u = ((({ a with defers := x :: a.defers } : Act).put oj.dst u).put d v) := fun x u => by
      rw [← cm]
      cases d <;> rfl
    generalize (execOp a.eval oj).run P w = res at h ⊢
    cases res with
    | ok nx w' =>
      cases nx <;> simp only [Oper.uponIn] at h ⊢
      case value u => show K _ _; rw [← cm]; exact h
      case skip => show K _ _; rw [← cm]; exact h
      case defer x => show K _ _; rw [← cmd]; exact h
      case enter f args =>
        refine ⟨h.1, CallsIn.mono h.2 fun e w'' hh => ?_⟩
        cases e with
        | returned u => show K _ _; rw [← cm]; exact hh
        | panicked c => exact hh.elim
        | outgrown => exact hh
      case row r args => exact ⟨h.1, RowsIn.mono h.2 fun u w'' hh => by show K _ _; rw [← cm]; exact hh⟩
      case round l f t s b =>
        refine ⟨h.1, RoundIn.mono h.2 fun e w'' hh => ?_⟩
        cases e with
        | returned u => show K _ _; rw [← cm]; exact hh
        | panicked c => exact hh.elim
        | outgrown => exact hh
    | halt x w' => cases x <;> simp only [Oper.uponIn] at h ⊢ <;> exact h.elim
  · rename_i hn
    rw [if_neg hn] at h
    exact ⟨fun f _ => hF.fn f, by show K _ _; rw [← cm]; exact h.2⟩
theorem Flo.chain (hF : Grants F n0 P ops) (hsel : Region.noSelect ops = true) {k : Nat} {C : List Nat} : ∀ (L : List (Nat × Value)) (listed : Array Bool) (a : Act) (w : World), Flo P ops md w0 (Ch P F n0 ops md w0 Q (k :: C)) L listed a w → k ∈ Region.ready md ops listed → k ∉ L.map (·.1) →
    ∃ ok, ops[k]? = some ok ∧ wpListIn F n0 P ops (chQ (fun a' w' => Below w0.heap.size w0 w' ∧ Flo P ops md w0 (Ch P F n0 ops md w0 Q C) L (listed.setIfInBounds k true) a' w') Q) [ok] a w := by
  intro L
  induction L with
  | nil => intro listed a w h _ _; exact h.2
  | cons s r ih =>
    intro listed a w h hk hkL
    obtain ⟨hfree, hr, oi, hoi, hp, hK⟩ := h
    obtain ⟨_, ok, hok, _⟩ := mem_ready.1 hk
    have hne : s.1 ≠ k := fun e => hkL (by rw [← e]; exact List.mem_cons_self)
    have X := pass_of hsel hfree hr hk hne hoi hok
    obtain ⟨ok', hok', hW⟩ := ih _ _ _ hK X.jr (fun h => hkL (List.mem_cons_of_mem _ h))
    rw [hok] at hok'
    obtain rfl := Option.some.inj hok'
    refine ⟨ok, hok, ?_⟩
    have hW2 := one_under (Q := Q) hF hok (X.ej a s.2) (X.wj a s.2) (fun a u => X.cm a s.2 u) hW
    -- the value's own facts do not hang on what the row yields
    have key : ∀ u, PureAt P ops w0 oi s.2 (a.put ok.dst u) := fun u => hp.same (X.ei a u) (X.wi a u)
    have keyd : ∀ (x : Deferred) u, PureAt P ops w0 oi s.2 (({ a with defers := x :: a.defers } : Act).put ok.dst u) := fun x u => by
      refine hp.same ?_ ?_
      · have := X.ei { a with defers := x :: a.defers } u
        rw [this]; rfl
      · have := X.wi { a with defers := x :: a.defers } u
        rw [this]
    have fin : ∀ a' w', PureAt P ops w0 oi s.2 a' → Below w0.heap.size w0 w' ∧ Flo P ops md w0 (Ch P F n0 ops md w0 Q C) r ((listed.setIfInBounds s.1 true).setIfInBounds k true) (a'.put oi.dst s.2) w' →
        Below w0.heap.size w0 w' ∧ Flo P ops md w0 (Ch P F n0 ops md w0 Q C) (s :: r) (listed.setIfInBounds k true) a' w' := fun a' w' hpa hh => ⟨hh.1, X.fr, X.ir, oi, hoi, hpa, by rw [← X.lc]; exact hh.2⟩
    simp only [wpListIn] at hW2 ⊢
    split
    · rename_i hy
      rw [if_pos hy] at hW2
      refine ⟨hW2.1, ?_⟩
      have h := hW2.2
      generalize (ok.semAt F.round a.eval).run P w = res at h ⊢
      cases res with
      | ok nx w' =>
        cases nx <;> simp only [Oper.uponIn] at h ⊢
        case value u => exact fin _ _ (key u) h
        case skip => exact fin _ _ (key undef) h
        case defer x => exact fin _ _ (keyd x undef) h
        case enter f args =>
          refine ⟨h.1, CallsIn.mono h.2 fun e w'' hh => ?_⟩
          cases e with
          | returned u => exact fin _ _ (key u) hh
          | panicked c => exact hh
          | outgrown => exact hh
        case row r' args => exact ⟨h.1, RowsIn.mono h.2 fun u w'' hh => fin _ _ (key u) hh⟩
        case round l f t s' b =>
          refine ⟨h.1, RoundIn.mono h.2 fun e w'' hh => ?_⟩
          cases e with
          | returned u => exact fin _ _ (key u) hh
          | panicked c => exact hh
          | outgrown => exact hh
      | halt x w' => cases x <;> simp only [Oper.uponIn] at h ⊢ <;> exact h
    · rename_i hn
      rw [if_neg hn] at hW2
      exact ⟨hW2.1, fin _ _ (key undef) hW2.2⟩
theorem one_op {j : Nat} {oj : Oper} (hoj : ops[j]? = some oj) {a : Act} {w : World} {K K' : Act → World → Prop} (hk : ∀ a w, K a w → K' a w) (h : wpListIn F n0 P ops (chQ K Q) [oj] a w) : wpOpIn F n0 P ops Q j K' a w := by
  unfold wpOpIn
  simp only [hoj]
  simp only [wpListIn] at h
  split
  · rename_i hy
    rw [if_pos hy] at h
    refine ⟨h.1, ?_⟩
    have h := h.2
    generalize (oj.semAt F.round a.eval).run P w = res at h ⊢
    cases res with
    | ok nx w' =>
      cases nx <;> simp only [Oper.uponIn] at h ⊢
      case value u => exact hk _ _ h
      case skip => exact hk _ _ h
      case defer x => exact hk _ _ h
      case enter f args =>
        refine ⟨h.1, CallsIn.mono h.2 fun e w'' hh => ?_⟩
        cases e with
        | returned u => exact hk _ _ hh
        | panicked c => exact hh.elim
        | outgrown => exact hh
      case row r args => exact ⟨h.1, RowsIn.mono h.2 fun u w'' hh => hk _ _ hh⟩
      case round l f t s b =>
        refine ⟨h.1, RoundIn.mono h.2 fun e w'' hh => ?_⟩
        cases e with
        | returned u => exact hk _ _ hh
        | panicked c => exact hh.elim
        | outgrown => exact hh
    | halt x w' => cases x <;> simp only [Oper.uponIn] at h ⊢ <;> exact h.elim
  · rename_i hn
    rw [if_neg hn] at h
    exact ⟨h.1, hk _ _ h.2⟩
theorem Flo.last {E : Array Bool → Act → World → Prop} : ∀ (L : List (Nat × Value)) (listed : Array Bool) (a : Act) (w : World), Flo P ops md w0 E L listed a w → ∃ listed' a', E listed' a' w ∧ ∀ j, j ∈ Region.ready md ops listed → j ∉ L.map (·.1) → j ∈ Region.ready md ops listed' := by
  intro L
  induction L with
  | nil => intro listed a w h; exact ⟨listed, a, h, fun j hj _ => hj⟩
  | cons s r ih =>
    intro listed a w h
    obtain ⟨_, _, oi, _, _, hK⟩ := h
    obtain ⟨l', a', hE, hsub⟩ := ih _ _ _ hK
    exact ⟨l', a', hE, fun j hj hn => hsub j (ready_mono hj (fun e => hn (by rw [e]; exact List.mem_cons_self))) (fun h => hn (List.mem_cons_of_mem _ h))⟩
theorem Flo.sound (hF : Grants F n0 P ops) (hsel : Region.noSelect ops = true) : ∀ (n : Nat) (L : List (Nat × Value)) (C : List Nat) (listed : Array Bool) (a : Act) (w : World), L.length + C.length = n → Below w0.heap.size w0 w → Flo P ops md w0 (Ch P F n0 ops md w0 Q C) L listed a w →
    wpAnyIn F n0 P md ops Q n listed a w := by
  intro n
  induction n with
  | zero =>
    intro L C listed a w hn _ h
    obtain rfl := List.eq_nil_of_length_eq_zero (Nat.eq_zero_of_add_eq_zero_right hn)
    obtain rfl := List.eq_nil_of_length_eq_zero (Nat.eq_zero_of_add_eq_zero_left hn)
    exact h
  | succ n ih =>
    intro L C listed a w hn hb h
    refine ⟨fun h0 => ?_, fun j hj => ?_⟩
    · match L, C, hn, h with
      | s :: r, _, _, h => have := h.2.1; rw [h0] at this; cases this
      | [], k :: C, _, h => have := h.1; rw [h0] at this; cases this
    · by_cases hjL : j ∈ L.map (·.1)
      · obtain ⟨u, oj, hoj, hpu, L', hl, _, hK⟩ := Flo.front hsel L listed a w h j hj hjL
        unfold wpOpIn
        simp only [hoj]
        rcases hpu with ⟨hw, hv⟩ | ⟨hw, rfl⟩
        · simp only [hw, if_true]
          refine ⟨fun f _ => hF.fn f, ?_⟩
          rw [hF.sem _ _ hoj, hv w hb]
          exact ih L' C _ _ _ (by omega) hb hK
        · simp only [hw, Bool.false_eq_true, if_false]
          exact ⟨fun f _ => hF.fn f, ih L' C _ _ _ (by omega) hb hK⟩
      · obtain ⟨l', a', hE, hsub⟩ := Flo.last L listed a w h
        match C, hn, h, hE with
        | [], _, _, hE => have := hsub j hj hjL; rw [hE.1] at this; cases this
        | k :: C, hn, h, hE =>
          obtain rfl : j = k := by have := hsub j hj hjL; rw [hE.1] at this; simpa using this
          obtain ⟨oj, hoj, hW⟩ := Flo.chain hF hsel L listed a w h hj hjL
          exact one_op hoj (fun a' w' hh => ih L C _ _ _ (by simp at hn ⊢; omega) hh.1 hh.2) hW
/-- The beginning. -/
theorem wpIn_region_seq {id : Nat} {a : Act} {w : World} {l : List Oper} {Q : Exit → Act → World → Prop} (hF : Grants F n0 P l.toArray) (w0 : World) (L : List (Nat × Value)) (C : List Nat) (hm : P.follows .mixedOrders = true) (hsel : Region.noSelect l.toArray = true) (hlen : L.length + C.length = l.toArray.size) (hb : Below w0.heap.size w0 w)
    (h : ∀ w1, w1.heap = w.heap → Below w.heap.size w w1 → Flo P l.toArray .any w0 (Ch P F n0 l.toArray .any w0 Q C) L (Array.replicate l.toArray.size false) a w1) : (Code.region id l.toArray true).wpIn F n0 P Q a w := by
  refine wpIn_region_any hm ?_
  have h1 : Below w.heap.size w { w with drawn := w.drawn + 1 } := ⟨rfl, rfl, rfl, Nat.le_refl _, fun _ _ => rfl⟩
  have h2 := Flo.sound (w0 := w0) (md := .any) hF hsel _ L C (Array.replicate l.toArray.size false) a { w with drawn := w.drawn + 1 } rfl ⟨hb.os, hb.tape, hb.output, hb.size, hb.block⟩ (h _ rfl h1)
  rw [hlen] at h2
  exact h2
theorem wp_region_seq {id : Nat} {a : Act} {w : World} {l : List Oper} {Q : Exit → Act → World → Prop} (w0 : World) (L : List (Nat × Value)) (C : List Nat) (hm : P.follows .mixedOrders = true) (hsel : Region.noSelect l.toArray = true) (hlen : L.length + C.length = l.toArray.size) (hb : Below w0.heap.size w0 w)
    (h : ∀ w1, w1.heap = w.heap → Below w.heap.size w w1 → Flo P l.toArray .any w0 (Ch P Fence.wide 0 l.toArray .any w0 Q C) L (Array.replicate l.toArray.size false) a w1) : (Code.region id l.toArray true).wp P Q a w :=
  wpIn_wide (n := 0) |>.1 (wpIn_region_seq (grants_wide P _) w0 L C hm hsel hlen hb h)
theorem flo_val {i : Nat} {o : Oper} {v : Value} {r : List (Nat × Value)} {E : Array Bool → Act → World → Prop} {listed : Array Bool} {a : Act} {w : World} (hf : Region.free md ops listed i = true) (hr : (Region.ready md ops listed).contains i = true) (ho : ops[i]? = some o) (hw : Region.wanted o (yielded ops a.tmps) = true)
    (hv : ∀ w1, Below w0.heap.size w0 w1 → (execOp a.eval o).run P w1 = .ok (.value v) w1) (h : Flo P ops md w0 E r (listed.setIfInBounds i true) (a.put o.dst v) w) : Flo P ops md w0 E ((i, v) :: r) listed a w :=
  ⟨fun oi hoi => by obtain rfl := Option.some.inj (ho.symm.trans hoi); exact Region.free_spec ho hf, List.contains_iff_mem.1 hr, o, ho, Or.inl ⟨hw, hv⟩, h⟩
theorem ch_one {k : Nat} {o : Oper} {C : List Nat} {listed : Array Bool} {a : Act} {w : World} (hr : (Region.ready md ops listed == [k]) = true) (ho : ops[k]? = some o)
    (h : wpListIn F n0 P ops (chQ (fun a' w' => Below w0.heap.size w0 w' ∧ Ch P F n0 ops md w0 Q C (listed.setIfInBounds k true) a' w') Q) [o] a w) : Ch P F n0 ops md w0 Q (k :: C) listed a w := ⟨by simpa using hr, o, ho, h⟩
theorem ch_nil {listed : Array Bool} {a : Act} {w : World} (hr : (Region.ready md ops listed).isEmpty = true) (h : Q .normal a w) : Ch P F n0 ops md w0 Q [] listed a w := ⟨by simpa using hr, h⟩
end
end Go.Proofs.YtmfchcaidfloaaaDoor
namespace Go.Proofs.YtmfchcaidfloaaaDoor
open Go.ChangeShapes Go.WideShapes Go.ChangeAt Go.RowKit

theorem neq2 (p q : Prop) [Decidable p] [Decidable q] (w : World) : (if p then if q then Result.ok (Next.value (.bool false)) w else Result.ok (Next.value (.bool true)) w else Result.ok (Next.value (.bool true)) w) = Result.ok (Next.value (.bool (!(decide p && decide q)))) w := by
  by_cases hp : p <;> by_cases hq : q <;> simp [hp, hq]
theorem ret_bool' {a b : Bool} (h : a = b) : Ending.returned (.bool a) = .returned (.bool b) := by rw [h]
end Go.Proofs.YtmfchcaidfloaaaDoor
namespace Go.Proofs.YtmfchcaidfloaaaDoor.Seq2
open Go.Proofs.YtmfchcaidfloaaaDoor
open Go.ChangeShapes Go.WideShapes Go.ChangeAt Go.RowKit

section
variable {P : Program} {F : Fence} {n0 : Nat} {ops : Array Oper} {md : Region.Mode} {w0 : World} {Q : Exit → Act → World → Prop}
def Flo (P : Program) (ops : Array Oper) (md : Region.Mode) (w0 : World) (E : Array Bool → Act → World → Prop) : List Nat → Array Bool → Act → World → Prop
  | [], listed, a, w => E listed a w
  | s :: r, listed, a, w => FreeP ops md listed s ∧ s ∈ Region.ready md ops listed ∧ ∃ o, ops[s]? = some o ∧ ∃ v, PureAt P ops w0 o v a ∧ Flo P ops md w0 E r (listed.setIfInBounds s true) (a.put o.dst v) w

/-- A value that comes up may be taken first. -/
theorem Flo.front {E : Array Bool → Act → World → Prop} (hsel : Region.noSelect ops = true) : ∀ (L : List Nat) (listed : Array Bool) (a : Act) (w : World), Flo P ops md w0 E L listed a w → ∀ j, j ∈ Region.ready md ops listed → j ∈ L →
    ∃ u oj, ops[j]? = some oj ∧ PureAt P ops w0 oj u a ∧ ∃ L', L'.length + 1 = L.length ∧ (∀ t, t ∈ L' → t ∈ L) ∧ Flo P ops md w0 E L' (listed.setIfInBounds j true) (a.put oj.dst u) w := by
  intro L
  induction L with
  | nil => intro _ _ _ _ _ _ h; cases h
  | cons s r ih =>
    intro listed a w h j hj hjL
    obtain ⟨hfree, hr, oi, hoi, sv, hp, hK⟩ := h
    by_cases hij : s = j
    · exact ⟨sv, oi, by rw [← hij]; exact hoi, hp, r, rfl, fun t ht => List.mem_cons_of_mem _ ht, by rw [← hij]; exact hK⟩
    have hjr : j ∈ r := by
      rcases List.mem_cons.1 hjL with h | h
      · exact absurd h.symm hij
      · exact h
    obtain ⟨_, oj, hoj, _⟩ := mem_ready.1 hj
    have X := pass_of hsel hfree hr hj hij hoi hoj
    obtain ⟨u, oj', hoj', hpu, L', hl, hsub, hF⟩ := ih _ _ _ hK j X.jr hjr
    rw [hoj] at hoj'
    obtain rfl := Option.some.inj hoj'
    refine ⟨u, oj, hoj, hpu.same (X.ej a sv).symm (X.wj a sv).symm, s :: L', by simp [hl], fun t ht => ?_, X.fr, X.ir, oi, hoi, sv, hp.same (X.ei a u) (X.wi a u), ?_⟩
    · rcases List.mem_cons.1 ht with rfl | h
      · exact List.mem_cons_self
      · exact List.mem_cons_of_mem _ (hsub t h)
    · rw [← X.lc, ← X.cm]; exact hF
theorem Flo.chain (hF : Grants F n0 P ops) (hsel : Region.noSelect ops = true) {k : Nat} {C : List Nat} : ∀ (L : List Nat) (listed : Array Bool) (a : Act) (w : World), Flo P ops md w0 (Ch P F n0 ops md w0 Q (k :: C)) L listed a w → k ∈ Region.ready md ops listed → k ∉ L →
    ∃ ok, ops[k]? = some ok ∧ wpListIn F n0 P ops (chQ (fun a' w' => Below w0.heap.size w0 w' ∧ Flo P ops md w0 (Ch P F n0 ops md w0 Q C) L (listed.setIfInBounds k true) a' w') Q) [ok] a w := by
  intro L
  induction L with
  | nil => intro listed a w h _ _; exact h.2
  | cons s r ih =>
    intro listed a w h hk hkL
    obtain ⟨hfree, hr, oi, hoi, sv, hp, hK⟩ := h
    obtain ⟨_, ok, hok, _⟩ := mem_ready.1 hk
    have hne : s ≠ k := fun e => hkL (by rw [← e]; exact List.mem_cons_self)
    have X := pass_of hsel hfree hr hk hne hoi hok
    obtain ⟨ok', hok', hW⟩ := ih _ _ _ hK X.jr (fun h => hkL (List.mem_cons_of_mem _ h))
    rw [hok] at hok'
    obtain rfl := Option.some.inj hok'
    refine ⟨ok, hok, ?_⟩
    have hW2 := one_under (Q := Q) hF hok (X.ej a sv) (X.wj a sv) (fun a u => X.cm a sv u) hW
    -- the value's own facts do not hang on what the row yields
    have key : ∀ u, PureAt P ops w0 oi sv (a.put ok.dst u) := fun u => hp.same (X.ei a u) (X.wi a u)
    have keyd : ∀ (x : Deferred) u, PureAt P ops w0 oi sv (({ a with defers := x :: a.defers } : Act).put ok.dst u) := fun x u => by
      refine hp.same ?_ ?_
      · have := X.ei { a with defers := x :: a.defers } u
        rw [this]; rfl
      · have := X.wi { a with defers := x :: a.defers } u
        rw [this]
    have fin : ∀ a' w', PureAt P ops w0 oi sv a' → Below w0.heap.size w0 w' ∧ Flo P ops md w0 (Ch P F n0 ops md w0 Q C) r ((listed.setIfInBounds s true).setIfInBounds k true) (a'.put oi.dst sv) w' →
        Below w0.heap.size w0 w' ∧ Flo P ops md w0 (Ch P F n0 ops md w0 Q C) (s :: r) (listed.setIfInBounds k true) a' w' := fun a' w' hpa hh => ⟨hh.1, X.fr, X.ir, oi, hoi, sv, hpa, by rw [← X.lc]; exact hh.2⟩
    simp only [wpListIn] at hW2 ⊢
    split
    · rename_i hy
      rw [if_pos hy] at hW2
      refine ⟨hW2.1, ?_⟩
      have h := hW2.2
      generalize (ok.semAt F.round a.eval).run P w = res at h ⊢
      cases res with
      | ok nx w' =>
        cases nx <;> simp only [Oper.uponIn] at h ⊢
        case value u => exact fin _ _ (key u) h
        case skip => exact fin _ _ (key undef) h
        case defer x => exact fin _ _ (keyd x undef) h
        case enter f args =>
          refine ⟨h.1, CallsIn.mono h.2 fun e w'' hh => ?_⟩
          cases e with
          | returned u => exact fin _ _ (key u) hh
          | panicked c => exact hh
          | outgrown => exact hh
        case row r' args => exact ⟨h.1, RowsIn.mono h.2 fun u w'' hh => fin _ _ (key u) hh⟩
        case round l f t s' b =>
          refine ⟨h.1, RoundIn.mono h.2 fun e w'' hh => ?_⟩
          cases e with
          | returned u => exact fin _ _ (key u) hh
          | panicked c => exact hh
          | outgrown => exact hh
      | halt x w' => cases x <;> simp only [Oper.uponIn] at h ⊢ <;> exact h
    · rename_i hn
      rw [if_neg hn] at hW2
      exact ⟨hW2.1, fin _ _ (key undef) hW2.2⟩
theorem Flo.last {E : Array Bool → Act → World → Prop} : ∀ (L : List Nat) (listed : Array Bool) (a : Act) (w : World), Flo P ops md w0 E L listed a w → ∃ listed' a', E listed' a' w ∧ ∀ j, j ∈ Region.ready md ops listed → j ∉ L → j ∈ Region.ready md ops listed' := by
  intro L
  induction L with
  | nil => intro listed a w h; exact ⟨listed, a, h, fun j hj _ => hj⟩
  | cons s r ih =>
    intro listed a w h
    obtain ⟨_, _, oi, _, _, _, hK⟩ := h
    obtain ⟨l', a', hE, hsub⟩ := ih _ _ _ hK
    exact ⟨l', a', hE, fun j hj hn => hsub j (ready_mono hj (fun e => hn (by rw [e]; exact List.mem_cons_self))) (fun h => hn (List.mem_cons_of_mem _ h))⟩
theorem Flo.sound (hF : Grants F n0 P ops) (hsel : Region.noSelect ops = true) : ∀ (n : Nat) (L : List Nat) (C : List Nat) (listed : Array Bool) (a : Act) (w : World), L.length + C.length = n → Below w0.heap.size w0 w → Flo P ops md w0 (Ch P F n0 ops md w0 Q C) L listed a w →
    wpAnyIn F n0 P md ops Q n listed a w := by
  intro n
  induction n with
  | zero =>
    intro L C listed a w hn _ h
    obtain rfl := List.eq_nil_of_length_eq_zero (Nat.eq_zero_of_add_eq_zero_right hn)
    obtain rfl := List.eq_nil_of_length_eq_zero (Nat.eq_zero_of_add_eq_zero_left hn)
    exact h
  | succ n ih =>
    intro L C listed a w hn hb h
    refine ⟨fun h0 => ?_, fun j hj => ?_⟩
    · match L, C, hn, h with
      | s :: r, _, _, h => have := h.2.1; rw [h0] at this; cases this
      | [], k :: C, _, h => have := h.1; rw [h0] at this; cases this
    · by_cases hjL : j ∈ L
      · obtain ⟨u, oj, hoj, hpu, L', hl, _, hK⟩ := Flo.front hsel L listed a w h j hj hjL
        unfold wpOpIn
        simp only [hoj]
        rcases hpu with ⟨hw, hv⟩ | ⟨hw, rfl⟩
        · simp only [hw, if_true]
          refine ⟨fun f _ => hF.fn f, ?_⟩
          rw [hF.sem _ _ hoj, hv w hb]
          exact ih L' C _ _ _ (by omega) hb hK
        · simp only [hw, Bool.false_eq_true, if_false]
          exact ⟨fun f _ => hF.fn f, ih L' C _ _ _ (by omega) hb hK⟩
      · obtain ⟨l', a', hE, hsub⟩ := Flo.last L listed a w h
        match C, hn, h, hE with
        | [], _, _, hE => have := hsub j hj hjL; rw [hE.1] at this; cases this
        | k :: C, hn, h, hE =>
          obtain rfl : j = k := by have := hsub j hj hjL; rw [hE.1] at this; simpa using this
          obtain ⟨oj, hoj, hW⟩ := Flo.chain hF hsel L listed a w h hj hjL
          exact one_op hoj (fun a' w' hh => ih L C _ _ _ (by simp at hn ⊢; omega) hh.1 hh.2) hW
/-- The beginning. -/
theorem wpIn_region_seq {id : Nat} {a : Act} {w : World} {l : List Oper} {Q : Exit → Act → World → Prop} (hF : Grants F n0 P l.toArray) (w0 : World) (L : List Nat) (C : List Nat) (hm : P.follows .mixedOrders = true) (hsel : Region.noSelect l.toArray = true) (hlen : L.length + C.length = l.toArray.size) (hb : Below w0.heap.size w0 w)
    (h : ∀ w1, w1.heap = w.heap → Below w.heap.size w w1 → Flo P l.toArray .any w0 (Ch P F n0 l.toArray .any w0 Q C) L (Array.replicate l.toArray.size false) a w1) : (Code.region id l.toArray true).wpIn F n0 P Q a w := by
  refine wpIn_region_any hm ?_
  have h1 : Below w.heap.size w { w with drawn := w.drawn + 1 } := ⟨rfl, rfl, rfl, Nat.le_refl _, fun _ _ => rfl⟩
  have h2 := Flo.sound (w0 := w0) (md := .any) hF hsel _ L C (Array.replicate l.toArray.size false) a { w with drawn := w.drawn + 1 } rfl ⟨hb.os, hb.tape, hb.output, hb.size, hb.block⟩ (h _ rfl h1)
  rw [hlen] at h2
  exact h2
theorem wp_region_seq {id : Nat} {a : Act} {w : World} {l : List Oper} {Q : Exit → Act → World → Prop} (w0 : World) (L : List Nat) (C : List Nat) (hm : P.follows .mixedOrders = true) (hsel : Region.noSelect l.toArray = true) (hlen : L.length + C.length = l.toArray.size) (hb : Below w0.heap.size w0 w)
    (h : ∀ w1, w1.heap = w.heap → Below w.heap.size w w1 → Flo P l.toArray .any w0 (Ch P Fence.wide 0 l.toArray .any w0 Q C) L (Array.replicate l.toArray.size false) a w1) : (Code.region id l.toArray true).wp P Q a w :=
  wpIn_wide (n := 0) |>.1 (wpIn_region_seq (grants_wide P _) w0 L C hm hsel hlen hb h)
theorem flo_val {i : Nat} {o : Oper} {r : List Nat} {E : Array Bool → Act → World → Prop} {listed : Array Bool} {a : Act} {w : World} (hf : Region.free md ops listed i = true) (hr : (Region.ready md ops listed).contains i = true) (ho : ops[i]? = some o)
    (hw : Region.wanted o (yielded ops a.tmps) = true) (h : ∃ v, (∀ w1, Below w0.heap.size w0 w1 → (execOp a.eval o).run P w1 = .ok (.value v) w1) ∧ Flo P ops md w0 E r (listed.setIfInBounds i true) (a.put o.dst v) w) : Flo P ops md w0 E (i :: r) listed a w := by
  obtain ⟨v, hv, h⟩ := h
  exact ⟨fun oi hoi => by obtain rfl := Option.some.inj (ho.symm.trans hoi); exact Region.free_spec ho hf, List.contains_iff_mem.1 hr, o, ho, v, Or.inl ⟨hw, hv⟩, h⟩
theorem flo_skip {i : Nat} {o : Oper} {r : List Nat} {E : Array Bool → Act → World → Prop} {listed : Array Bool} {a : Act} {w : World} (hf : Region.free md ops listed i = true) (hr : (Region.ready md ops listed).contains i = true) (ho : ops[i]? = some o)
    (hw : Region.wanted o (yielded ops a.tmps) = false) (h : Flo P ops md w0 E r (listed.setIfInBounds i true) (a.put o.dst undef) w) : Flo P ops md w0 E (i :: r) listed a w :=
  ⟨fun oi hoi => by obtain rfl := Option.some.inj (ho.symm.trans hoi); exact Region.free_spec ho hf, List.contains_iff_mem.1 hr, o, ho, undef, Or.inr ⟨hw, rfl⟩, h⟩
theorem agree_head {k : Nat} {o : Oper} {l : List Oper} (h : ∀ j, (o :: l)[j]? = ops[k + j]?) : ops[k]? = some o := by simpa using (h 0).symm
theorem agree_tail {k : Nat} {o : Oper} {l : List Oper} (h : ∀ j, (o :: l)[j]? = ops[k + j]?) : ∀ j, l[j]? = ops[k + 1 + j]? := fun j => by
  have := h (j + 1)
  rw [show k + 1 + j = k + (j + 1) by omega, ← this]; rfl
/-- The values that are left, and the operations from number k on, behind a structure: so that nothing unfolds it. -/
structure FL (P : Program) (ops : Array Oper) (md : Region.Mode) (w0 : World) (E : Array Bool → Act → World → Prop) (k : Nat) (l : List Oper) (L : List Nat) (listed : Array Bool) (a : Act) (w : World) : Prop where
  out : (∀ j, l[j]? = ops[k + j]?) → Flo P ops md w0 E L listed a w
theorem fl_nil {E : Array Bool → Act → World → Prop} {k : Nat} {l : List Oper} {listed : Array Bool} {a : Act} {w : World} (h : E listed a w) : FL P ops md w0 E k l [] listed a w := ⟨fun _ => h⟩
theorem fl_val {i : Nat} {o : Oper} {l : List Oper} {r : List Nat} {E : Array Bool → Act → World → Prop} {listed : Array Bool} {a : Act} {w : World} (hf : Region.free md ops listed i = true) (hr : (Region.ready md ops listed).contains i = true)
    (hw : Region.wanted o (yielded ops a.tmps) = true) (h : ∃ v, (∀ w1, Below w0.heap.size w0 w1 → (execOp a.eval o).run P w1 = .ok (.value v) w1) ∧ FL P ops md w0 E (i + 1) l r (listed.setIfInBounds i true) (a.put o.dst v) w) : FL P ops md w0 E i (o :: l) (i :: r) listed a w :=
  ⟨fun ha => flo_val hf hr (agree_head ha) hw (let ⟨v, h1, h2⟩ := h; ⟨v, h1, h2.out (agree_tail ha)⟩)⟩
theorem fl_skip {i : Nat} {o : Oper} {l : List Oper} {r : List Nat} {E : Array Bool → Act → World → Prop} {listed : Array Bool} {a : Act} {w : World} (hf : Region.free md ops listed i = true) (hr : (Region.ready md ops listed).contains i = true)
    (hw : Region.wanted o (yielded ops a.tmps) = false) (h : FL P ops md w0 E (i + 1) l r (listed.setIfInBounds i true) (a.put o.dst undef) w) : FL P ops md w0 E i (o :: l) (i :: r) listed a w := ⟨fun ha => flo_skip hf hr (agree_head ha) hw (h.out (agree_tail ha))⟩
/-- An operation of the row: it comes later. -/
theorem fl_row {i j : Nat} {o : Oper} {l : List Oper} {r : List Nat} {E : Array Bool → Act → World → Prop} {listed : Array Bool} {a : Act} {w : World} (_hij : (i != j) = true) (h : FL P ops md w0 E (i + 1) l (j :: r) listed a w) : FL P ops md w0 E i (o :: l) (j :: r) listed a w := ⟨fun ha => h.out (agree_tail ha)⟩
theorem wp_region_fl {id : Nat} {a : Act} {w : World} {l : List Oper} {Q : Exit → Act → World → Prop} (w0 : World) (L : List Nat) (C : List Nat) (hm : P.follows .mixedOrders = true) (hsel : Region.noSelect l.toArray = true) (hlen : L.length + C.length = l.length) (hb : Below w0.heap.size w0 w)
    (h : ∀ w1, w1.heap = w.heap → Below w.heap.size w w1 → FL P l.toArray .any w0 (Ch P Fence.wide 0 l.toArray .any w0 Q C) 0 l L (Array.replicate l.toArray.size false) a w1) : (Code.region id l.toArray true).wp P Q a w :=
  wp_region_seq w0 L C hm hsel hlen hb fun w1 hh hb1 => (h w1 hh hb1).out (fun j => by simp)
theorem wpIn_region_fl {id : Nat} {a : Act} {w : World} {l : List Oper} {Q : Exit → Act → World → Prop} (hF : Grants F n0 P l.toArray) (w0 : World) (L : List Nat) (C : List Nat) (hm : P.follows .mixedOrders = true) (hsel : Region.noSelect l.toArray = true) (hlen : L.length + C.length = l.length) (hb : Below w0.heap.size w0 w)
    (h : ∀ w1, w1.heap = w.heap → Below w.heap.size w w1 → FL P l.toArray .any w0 (Ch P F n0 l.toArray .any w0 Q C) 0 l L (Array.replicate l.toArray.size false) a w1) : (Code.region id l.toArray true).wpIn F n0 P Q a w :=
  wpIn_region_seq hF w0 L C hm hsel hlen hb fun w1 hh hb1 => (h w1 hh hb1).out (fun j => by simp)
end
end Go.Proofs.YtmfchcaidfloaaaDoor.Seq2
