/- A region that draws its order: values, then a row of others, and behind each one of the row further values. -/
import Derived.Test.YtmfchcaidfloaaaDoorK3
namespace Go.Proofs.YtmfchcaidfloaaaDoor.Seq3
open Go.Proofs.YtmfchcaidfloaaaDoor Go.Proofs.YtmfchcaidfloaaaDoor.Seq2
open Go.ChangeShapes Go.WideShapes Go.ChangeAt Go.RowKit

section
variable {P : Program} {F : Fence} {n0 : Nat} {ops : Array Oper} {md : Region.Mode} {w0 : World} {Q : Exit → Act → World → Prop}
/-- One of the row, and what holds behind it. -/
def Row (P : Program) (F : Fence) (n0 : Nat) (ops : Array Oper) (md : Region.Mode) (w0 : World) (Q : Exit → Act → World → Prop) (k : Nat) (E : Array Bool → Act → World → Prop) (listed : Array Bool) (a : Act) (w : World) : Prop :=
  Region.ready md ops listed = [k] ∧ ∃ o, ops[k]? = some o ∧ wpListIn F n0 P ops (chQ (fun a' w' => Below w0.heap.size w0 w' ∧ E (listed.setIfInBounds k true) a' w') Q) [o] a w
def Ch3 (P : Program) (F : Fence) (n0 : Nat) (ops : Array Oper) (md : Region.Mode) (w0 : World) (Q : Exit → Act → World → Prop) : List (Nat × List Nat) → Array Bool → Act → World → Prop
  | [], listed, a, w => Region.ready md ops listed = [] ∧ Q .normal a w
  | s :: C, listed, a, w => Row P F n0 ops md w0 Q s.1 (Seq2.Flo P ops md w0 (Ch3 P F n0 ops md w0 Q C) s.2) listed a w
def size3 : List (Nat × List Nat) → Nat
  | [] => 0
  | s :: C => 1 + s.2.length + size3 C
theorem flo_app {E : Array Bool → Act → World → Prop} {L' : List Nat} : ∀ (L : List Nat) (listed : Array Bool) (a : Act) (w : World), Seq2.Flo P ops md w0 (Seq2.Flo P ops md w0 E L') L listed a w → Seq2.Flo P ops md w0 E (L ++ L') listed a w := by
  intro L
  induction L with
  | nil => intro listed a w h; exact h
  | cons s r ih =>
    intro listed a w h
    obtain ⟨h1, h2, o, h3, v, h4, h5⟩ := h
    exact ⟨h1, h2, o, h3, v, h4, ih _ _ _ h5⟩
theorem chain (hF : Grants F n0 P ops) (hsel : Region.noSelect ops = true) {k : Nat} {E' : Array Bool → Act → World → Prop} : ∀ (L : List Nat) (listed : Array Bool) (a : Act) (w : World), Seq2.Flo P ops md w0 (Row P F n0 ops md w0 Q k E') L listed a w → k ∈ Region.ready md ops listed → k ∉ L →
    ∃ ok, ops[k]? = some ok ∧ wpListIn F n0 P ops (chQ (fun a' w' => Below w0.heap.size w0 w' ∧ Seq2.Flo P ops md w0 E' L (listed.setIfInBounds k true) a' w') Q) [ok] a w := by
  intro L
  induction L with
  | nil => intro listed a w h _ _; exact h.2
  | cons s r ih =>
    intro listed a w h hk hkL
    obtain ⟨hfree, hr, oi, hoi, sv, hp, hK⟩ := h
    obtain ⟨_, ok, hok, _⟩ := mem_ready.1 hk
    have hne : s ≠ k := fun e => hkL (by rw [← e]; exact List.mem_cons_self)
    have X := pass_of hsel hfree hr hk hne hoi hok
    obtain ⟨ok', hok', hW⟩ := ih _ _ _ hK X.jr (fun h => hkL (List.mem_cons_of_mem _ h))
    rw [hok] at hok'
    obtain rfl := Option.some.inj hok'
    refine ⟨ok, hok, ?_⟩
    have hW2 := one_under (Q := Q) hF hok (X.ej a sv) (X.wj a sv) (fun a u => X.cm a sv u) hW
    -- the value's own facts do not hang on what the row yields
    have key : ∀ u, PureAt P ops w0 oi sv (a.put ok.dst u) := fun u => hp.same (X.ei a u) (X.wi a u)
    have keyd : ∀ (x : Deferred) u, PureAt P ops w0 oi sv (({ a with defers := x :: a.defers } : Act).put ok.dst u) := fun x u => by
      refine hp.same ?_ ?_
      · have := X.ei { a with defers := x :: a.defers } u
        rw [this]; rfl
      · have := X.wi { a with defers := x :: a.defers } u
        rw [this]
    have fin : ∀ a' w', PureAt P ops w0 oi sv a' → Below w0.heap.size w0 w' ∧ Seq2.Flo P ops md w0 E' r ((listed.setIfInBounds s true).setIfInBounds k true) (a'.put oi.dst sv) w' →
        Below w0.heap.size w0 w' ∧ Seq2.Flo P ops md w0 E' (s :: r) (listed.setIfInBounds k true) a' w' := fun a' w' hpa hh => ⟨hh.1, X.fr, X.ir, oi, hoi, sv, hpa, by rw [← X.lc]; exact hh.2⟩
    simp only [wpListIn] at hW2 ⊢
    split
    · rename_i hy
      rw [if_pos hy] at hW2
      refine ⟨hW2.1, ?_⟩
      have h := hW2.2
      generalize (ok.semAt F.round a.eval).run P w = res at h ⊢
      cases res with
      | ok nx w' =>
        cases nx <;> simp only [Oper.uponIn] at h ⊢
        case value u => exact fin _ _ (key u) h
        case skip => exact fin _ _ (key undef) h
        case defer x => exact fin _ _ (keyd x undef) h
        case enter f args =>
          refine ⟨h.1, CallsIn.mono h.2 fun e w'' hh => ?_⟩
          cases e with
          | returned u => exact fin _ _ (key u) hh
          | panicked c => exact hh
          | outgrown => exact hh
        case row r' args => exact ⟨h.1, RowsIn.mono h.2 fun u w'' hh => fin _ _ (key u) hh⟩
        case round l f t s' b =>
          refine ⟨h.1, RoundIn.mono h.2 fun e w'' hh => ?_⟩
          cases e with
          | returned u => exact fin _ _ (key u) hh
          | panicked c => exact hh
          | outgrown => exact hh
      | halt x w' => cases x <;> simp only [Oper.uponIn] at h ⊢ <;> exact h
    · rename_i hn
      rw [if_neg hn] at hW2
      exact ⟨hW2.1, fin _ _ (key undef) hW2.2⟩
theorem sound (hF : Grants F n0 P ops) (hsel : Region.noSelect ops = true) : ∀ (n : Nat) (L : List Nat) (C : List (Nat × List Nat)) (listed : Array Bool) (a : Act) (w : World), L.length + size3 C = n → Below w0.heap.size w0 w → Seq2.Flo P ops md w0 (Ch3 P F n0 ops md w0 Q C) L listed a w →
    wpAnyIn F n0 P md ops Q n listed a w := by
  intro n
  induction n with
  | zero =>
    intro L C listed a w hn _ h
    obtain rfl := List.eq_nil_of_length_eq_zero (Nat.eq_zero_of_add_eq_zero_right hn)
    match C, hn, h with
    | [], _, h => exact h
    | s :: C, hn, _ => simp only [size3] at hn; omega
  | succ n ih =>
    intro L C listed a w hn hb h
    refine ⟨fun h0 => ?_, fun j hj => ?_⟩
    · match L, C, hn, h with
      | s :: r, _, _, h => have := h.2.1; rw [h0] at this; cases this
      | [], k :: C, _, h => have := h.1; rw [h0] at this; cases this
    · by_cases hjL : j ∈ L
      · obtain ⟨u, oj, hoj, hpu, L', hl, _, hK⟩ := Seq2.Flo.front hsel L listed a w h j hj hjL
        unfold wpOpIn
        simp only [hoj]
        rcases hpu with ⟨hw, hv⟩ | ⟨hw, rfl⟩
        · simp only [hw, if_true]
          refine ⟨fun f _ => hF.fn f, ?_⟩
          rw [hF.sem _ _ hoj, hv w hb]
          exact ih L' C _ _ _ (by omega) hb hK
        · simp only [hw, Bool.false_eq_true, if_false]
          exact ⟨fun f _ => hF.fn f, ih L' C _ _ _ (by omega) hb hK⟩
      · obtain ⟨l', a', hE, hsub⟩ := Seq2.Flo.last L listed a w h
        match C, hn, h, hE with
        | [], _, _, hE => have := hsub j hj hjL; rw [hE.1] at this; cases this
        | s :: C, hn, h, hE =>
          obtain rfl : j = s.1 := by have := hsub j hj hjL; rw [hE.1] at this; simpa using this
          obtain ⟨oj, hoj, hW⟩ := chain hF hsel L listed a w h hj hjL
          exact one_op hoj (fun a' w' hh => ih (L ++ s.2) C _ _ _ (by simp only [size3] at hn; simp; omega) hh.1 (flo_app L _ _ _ hh.2)) hW
theorem wpIn_region {id : Nat} {a : Act} {w : World} {l : List Oper} {Q : Exit → Act → World → Prop} (hF : Grants F n0 P l.toArray) (w0 : World) (L : List Nat) (C : List (Nat × List Nat)) (hm : P.follows .mixedOrders = true) (hsel : Region.noSelect l.toArray = true) (hlen : L.length + size3 C = l.length) (hb : Below w0.heap.size w0 w)
    (h : ∀ w1, w1.heap = w.heap → Below w.heap.size w w1 → Seq2.FL P l.toArray .any w0 (Ch3 P F n0 l.toArray .any w0 Q C) 0 l L (Array.replicate l.toArray.size false) a w1) : (Code.region id l.toArray true).wpIn F n0 P Q a w := by
  refine wpIn_region_any hm ?_
  have h1 : Below w.heap.size w { w with drawn := w.drawn + 1 } := ⟨rfl, rfl, rfl, Nat.le_refl _, fun _ _ => rfl⟩
  have h2 := sound (w0 := w0) (md := .any) hF hsel _ L C (Array.replicate l.toArray.size false) a { w with drawn := w.drawn + 1 } rfl ⟨hb.os, hb.tape, hb.output, hb.size, hb.block⟩ ((h { w with drawn := w.drawn + 1 } rfl h1).out (fun j => by simp))
  rw [hlen] at h2
  exact h2
theorem wp_region {id : Nat} {a : Act} {w : World} {l : List Oper} {Q : Exit → Act → World → Prop} (w0 : World) (L : List Nat) (C : List (Nat × List Nat)) (hm : P.follows .mixedOrders = true) (hsel : Region.noSelect l.toArray = true) (hlen : L.length + size3 C = l.length) (hb : Below w0.heap.size w0 w)
    (h : ∀ w1, w1.heap = w.heap → Below w.heap.size w w1 → Seq2.FL P l.toArray .any w0 (Ch3 P Fence.wide 0 l.toArray .any w0 Q C) 0 l L (Array.replicate l.toArray.size false) a w1) : (Code.region id l.toArray true).wp P Q a w :=
  wpIn_wide (n := 0) |>.1 (wpIn_region (grants_wide P _) w0 L C hm hsel hlen hb h)
theorem c3_one {k : Nat} {L : List Nat} {o : Oper} {C : List (Nat × List Nat)} {listed : Array Bool} {a : Act} {w : World} (hr : (Region.ready md ops listed == [k]) = true) (ho : ops[k]? = some o)
    (h : wpListIn F n0 P ops (chQ (fun a' w' => Below w0.heap.size w0 w' ∧ Seq2.Flo P ops md w0 (Ch3 P F n0 ops md w0 Q C) L (listed.setIfInBounds k true) a' w') Q) [o] a w) : Ch3 P F n0 ops md w0 Q ((k, L) :: C) listed a w := ⟨by simpa using hr, o, ho, h⟩
theorem c3_nil {listed : Array Bool} {a : Act} {w : World} (hr : (Region.ready md ops listed).isEmpty = true) (h : Q .normal a w) : Ch3 P F n0 ops md w0 Q [] listed a w := ⟨by simpa using hr, h⟩
theorem none {E : Array Bool → Act → World → Prop} {listed : Array Bool} {a : Act} {w : World} (h : E listed a w) : Seq2.Flo P ops md w0 E [] listed a w := h
/-- Further values, from the number k on. -/
theorem mid {E : Array Bool → Act → World → Prop} {L : List Nat} {l : List Oper} {listed : Array Bool} {a : Act} {w : World} (k : Nat) (h : Seq2.FL P l.toArray md w0 E k (l.drop k) L listed a w) : Seq2.Flo P l.toArray md w0 E L listed a w :=
  h.out (fun j => by simp)
end
end Go.Proofs.YtmfchcaidfloaaaDoor.Seq3
