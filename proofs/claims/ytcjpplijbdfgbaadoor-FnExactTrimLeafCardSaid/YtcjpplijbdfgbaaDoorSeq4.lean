/- A region that draws its order: values, a row of calls, and one block that may be made at any time before what hangs on it. -/
import Derived.Test.YtcjpplijbdfgbaaDoorSeq3
namespace Go.Proofs.YtcjpplijbdfgbaaDoor.Seq4
open Go.Proofs.YtcjpplijbdfgbaaDoor Go.Proofs.YtcjpplijbdfgbaaDoor.Seq2 Go.Proofs.YtcjpplijbdfgbaaDoor.Seq3
open Go.ChangeShapes Go.WideShapes Go.ChangeAt Go.RowKit

section
variable {P : Program} {F : Fence} {n0 : Nat} {ops : Array Oper} {md : Region.Mode} {w0 : World} {Q : Exit → Act → World → Prop} {s : Nat} {os : Oper} {Z : Obj}
/-- One of the row, whatever is ready beside it. -/
def One (P : Program) (F : Fence) (n0 : Nat) (ops : Array Oper) (w0 : World) (Q : Exit → Act → World → Prop) (k : Nat) (E : Array Bool → Act → World → Prop) (listed : Array Bool) (a : Act) (w : World) : Prop :=
  ∃ o, ops[k]? = some o ∧ wpListIn F n0 P ops (chQ (fun a' w' => Below w0.heap.size w0 w' ∧ E (listed.setIfInBounds k true) a' w') Q) [o] a w
/-- The block has not been made yet. -/
def U (P : Program) (F : Fence) (n0 : Nat) (ops : Array Oper) (md : Region.Mode) (w0 : World) (Q : Exit → Act → World → Prop) (s : Nat) (os : Oper) (Z : Obj) (C2 : List (Nat × List Nat)) : List (Nat × List Nat) → Array Bool → Act → World → Prop
  | [], listed, a, w => Region.ready md ops listed = [s] ∧ ∀ p w', Below w.heap.size w w' → w'.heap[p]? = some Z → w0.heap.size ≤ p → Seq3.Ch3 P F n0 ops md w0 Q C2 (listed.setIfInBounds s true) (a.put os.dst (.pointer (some ⟨p, 0, none⟩))) w'
  | c :: C, listed, a, w => (∀ j, j ∈ Region.ready md ops listed → j = s ∨ j = c.1) ∧ c.1 ∈ Region.ready md ops listed ∧ s ≠ c.1 ∧ Region.ready md ops (listed.setIfInBounds s true) = [c.1] ∧
      ∀ w', Below w.heap.size w w' → One P F n0 ops w0 Q c.1 (fun l' a' w'' => Below w'.heap.size w' w'' ∧ Seq2.Flo P ops md w0 (U P F n0 ops md w0 Q s os Z C2 C) c.2 l' a' w'') listed a w'
theorem U.mono {C2 : List (Nat × List Nat)} {w w' : World} (hb : Below w.heap.size w w') : ∀ (C : List (Nat × List Nat)) (listed : Array Bool) (a : Act), U P F n0 ops md w0 Q s os Z C2 C listed a w → U P F n0 ops md w0 Q s os Z C2 C listed a w'
  | [], _, _, h => ⟨h.1, fun p w2 hb2 => h.2 p w2 (hb.trans (hb2.mono hb.size))⟩
  | _ :: _, _, _, h => ⟨h.1, h.2.1, h.2.2.1, h.2.2.2.1, fun w2 hb2 => h.2.2.2.2 w2 (hb.trans (hb2.mono hb.size))⟩
theorem flo_mono {E E' : Array Bool → Act → World → Prop} {w w' : World} (h : ∀ l a, E l a w → E' l a w') : ∀ (L : List Nat) (listed : Array Bool) (a : Act), Seq2.Flo P ops md w0 E L listed a w → Seq2.Flo P ops md w0 E' L listed a w'
  | [], _, _, hf => h _ _ hf
  | _ :: r, _, _, ⟨h1, h2, o, h3, v, h4, h5⟩ => ⟨h1, h2, o, h3, v, h4, flo_mono h r _ _ h5⟩
/-- An operation of the row, behind a value instead of before it. -/
theorem one_over (hF : Grants F n0 P ops) {j : Nat} {oj : Oper} (hoj : ops[j]? = some oj) {d : Option Tmp} {v : Value} {a : Act} {w : World} {K : Act → World → Prop}
    (he : execOp (a.put d v).eval oj = execOp a.eval oj) (hw : Region.wanted oj (yielded ops (a.put d v).tmps) = Region.wanted oj (yielded ops a.tmps)) (cm : ∀ (a : Act) (u : Value), (a.put d v).put oj.dst u = (a.put oj.dst u).put d v)
    (h : wpListIn F n0 P ops (chQ K Q) [oj] a w) : wpListIn F n0 P ops (chQ (fun a' w' => ∃ a2, a' = a2.put d v ∧ K a2 w') Q) [oj] (a.put d v) w := by
  simp only [wpListIn] at h ⊢
  rw [hw]
  split
  · rename_i hy
    rw [if_pos hy] at h
    refine ⟨fun f _ => hF.fn f, ?_⟩
    have h := h.2
    rw [hF.sem j oj hoj] at h ⊢
    rw [he]
    have cmd : ∀ (x : Deferred) (u : Value), Act.put { a.put d v with defers := x :: (a.put d v).defers } oj.dst u = ((({ a with defers := x :: a.defers } : Act).put oj.dst u).put d v) := fun x u => by
      rw [← cm]
      cases d <;> rfl
    generalize (execOp a.eval oj).run P w = res at h ⊢
    cases res with
    | ok nx w' =>
      cases nx <;> simp only [Oper.uponIn] at h ⊢
      case value u => exact ⟨_, cm _ _, h⟩
      case skip => exact ⟨_, cm _ _, h⟩
      case defer x => exact ⟨_, cmd _ _, h⟩
      case enter f args =>
        refine ⟨h.1, CallsIn.mono h.2 fun e w'' hh => ?_⟩
        cases e with
        | returned u => exact ⟨_, cm _ _, hh⟩
        | panicked c => exact hh.elim
        | outgrown => exact hh
      case row r args => exact ⟨h.1, RowsIn.mono h.2 fun u w'' hh => ⟨_, cm _ _, hh⟩⟩
      case round l f t s b =>
        refine ⟨h.1, RoundIn.mono h.2 fun e w'' hh => ?_⟩
        cases e with
        | returned u => exact ⟨_, cm _ _, hh⟩
        | panicked c => exact hh.elim
        | outgrown => exact hh
    | halt x w' => cases x <;> simp only [Oper.uponIn] at h ⊢ <;> exact h.elim
  · rename_i hn
    rw [if_neg hn] at h
    exact ⟨fun f _ => hF.fn f, _, cm _ _, h.2⟩
theorem list_mono {oj : Oper} {a : Act} {w : World} {K K' : Act → World → Prop} (hk : ∀ a w, K a w → K' a w) (h : wpListIn F n0 P ops (chQ K Q) [oj] a w) : wpListIn F n0 P ops (chQ K' Q) [oj] a w := by
  simp only [wpListIn] at h ⊢
  split
  · rename_i hy
    rw [if_pos hy] at h
    refine ⟨h.1, ?_⟩
    have h := h.2
    generalize (oj.semAt F.round a.eval).run P w = res at h ⊢
    cases res with
    | ok nx w' =>
      cases nx <;> simp only [Oper.uponIn] at h ⊢
      case value u => exact hk _ _ h
      case skip => exact hk _ _ h
      case defer x => exact hk _ _ h
      case enter f args =>
        refine ⟨h.1, CallsIn.mono h.2 fun e w'' hh => ?_⟩
        cases e with
        | returned u => exact hk _ _ hh
        | panicked c => exact hh.elim
        | outgrown => exact hh
      case row r args => exact ⟨h.1, RowsIn.mono h.2 fun u w'' hh => hk _ _ hh⟩
      case round l f t s b =>
        refine ⟨h.1, RoundIn.mono h.2 fun e w'' hh => ?_⟩
        cases e with
        | returned u => exact hk _ _ hh
        | panicked c => exact hh.elim
        | outgrown => exact hh
    | halt x w' => cases x <;> simp only [Oper.uponIn] at h ⊢ <;> exact h.elim
  · rename_i hn
    rw [if_neg hn] at h
    exact ⟨h.1, hk _ _ h.2⟩
/-- One of the row under values that are left. -/
theorem chain (hF : Grants F n0 P ops) (hsel : Region.noSelect ops = true) {k : Nat} {E' : Array Bool → Act → World → Prop} : ∀ (L : List Nat) (listed : Array Bool) (a : Act) (w : World), Seq2.Flo P ops md w0 (One P F n0 ops w0 Q k E') L listed a w → k ∈ Region.ready md ops listed → k ∉ L →
    ∃ ok, ops[k]? = some ok ∧ wpListIn F n0 P ops (chQ (fun a' w' => Below w0.heap.size w0 w' ∧ Seq2.Flo P ops md w0 E' L (listed.setIfInBounds k true) a' w') Q) [ok] a w := by
  intro L
  induction L with
  | nil => intro listed a w h _ _; exact h
  | cons s r ih =>
    intro listed a w h hk hkL
    obtain ⟨hfree, hr, oi, hoi, sv, hp, hK⟩ := h
    obtain ⟨_, ok, hok, _⟩ := mem_ready.1 hk
    have hne : s ≠ k := fun e => hkL (by rw [← e]; exact List.mem_cons_self)
    have X := pass_of hsel hfree hr hk hne hoi hok
    obtain ⟨ok', hok', hW⟩ := ih _ _ _ hK X.jr (fun h => hkL (List.mem_cons_of_mem _ h))
    rw [hok] at hok'
    obtain rfl := Option.some.inj hok'
    refine ⟨ok, hok, ?_⟩
    have hW2 := one_under (Q := Q) hF hok (X.ej a sv) (X.wj a sv) (fun a u => X.cm a sv u) hW
    have key : ∀ u, PureAt P ops w0 oi sv (a.put ok.dst u) := fun u => hp.same (X.ei a u) (X.wi a u)
    have keyd : ∀ (x : Deferred) u, PureAt P ops w0 oi sv (({ a with defers := x :: a.defers } : Act).put ok.dst u) := fun x u => by
      refine hp.same ?_ ?_
      · have := X.ei { a with defers := x :: a.defers } u
        rw [this]; rfl
      · have := X.wi { a with defers := x :: a.defers } u
        rw [this]
    have fin : ∀ a' w', PureAt P ops w0 oi sv a' → Below w0.heap.size w0 w' ∧ Seq2.Flo P ops md w0 E' r ((listed.setIfInBounds s true).setIfInBounds k true) (a'.put oi.dst sv) w' →
        Below w0.heap.size w0 w' ∧ Seq2.Flo P ops md w0 E' (s :: r) (listed.setIfInBounds k true) a' w' := fun a' w' hpa hh => ⟨hh.1, X.fr, X.ir, oi, hoi, sv, hpa, by rw [← X.lc]; exact hh.2⟩
    simp only [wpListIn] at hW2 ⊢
    split
    · rename_i hy
      rw [if_pos hy] at hW2
      refine ⟨hW2.1, ?_⟩
      have h := hW2.2
      generalize (ok.semAt F.round a.eval).run P w = res at h ⊢
      cases res with
      | ok nx w' =>
        cases nx <;> simp only [Oper.uponIn] at h ⊢
        case value u => exact fin _ _ (key u) h
        case skip => exact fin _ _ (key undef) h
        case defer x => exact fin _ _ (keyd x undef) h
        case enter f args =>
          refine ⟨h.1, CallsIn.mono h.2 fun e w'' hh => ?_⟩
          cases e with
          | returned u => exact fin _ _ (key u) hh
          | panicked c => exact hh
          | outgrown => exact hh
        case row r' args => exact ⟨h.1, RowsIn.mono h.2 fun u w'' hh => fin _ _ (key u) hh⟩
        case round l f t s' b =>
          refine ⟨h.1, RoundIn.mono h.2 fun e w'' hh => ?_⟩
          cases e with
          | returned u => exact fin _ _ (key u) hh
          | panicked c => exact hh
          | outgrown => exact hh
      | halt x w' => cases x <;> simp only [Oper.uponIn] at h ⊢ <;> exact h
    · rename_i hn
      rw [if_neg hn] at hW2
      exact ⟨hW2.1, fin _ _ (key undef) hW2.2⟩
theorem alloc_new (w : World) (o : Obj) : (w.alloc o).heap[w.heap.size]? = some o := heap_alloc_new w o
theorem blk_lt' {w : World} {p : Nat} {o : Obj} (h : w.heap[p]? = some o) : p < w.heap.size := (Array.getElem?_eq_some_iff.1 h).1
theorem size3_app : ∀ C C2 : List (Nat × List Nat), size3 (C ++ C2) = size3 C + size3 C2
  | [], C2 => by simp [size3]
  | c :: C, C2 => by simp only [List.cons_append, size3, size3_app C C2]; omega
theorem set_set {l : Array Bool} {i j : Nat} (h : i ≠ j) : (l.setIfInBounds i true).setIfInBounds j true = (l.setIfInBounds j true).setIfInBounds i true := Array.setIfInBounds_comm _ _ h
/-- The values pass the block. -/
theorem flo_put (hsel : Region.noSelect ops = true) (hos : ops[s]? = some os) {u : Value} {E E' : Array Bool → Act → World → Prop} {w : World} : ∀ (L : List Nat) (listed : Array Bool) (a : Act), Seq2.Flo P ops md w0 E L listed a w → FreeP ops md listed s → s ∈ Region.ready md ops listed → s ∉ L →
    (∀ l a, FreeP ops md l s → s ∈ Region.ready md ops l → E l a w → E' (l.setIfInBounds s true) (a.put os.dst u) w) → Seq2.Flo P ops md w0 E' L (listed.setIfInBounds s true) (a.put os.dst u) w
  | [], listed, a, h, hf, hr, _, hE => hE _ _ hf hr h
  | i :: r, listed, a, ⟨h1, h2, oi, h3, v, h4, h5⟩, hf, hr, hn, hE => by
    have hne : s ≠ i := fun e => hn (by rw [e]; exact List.mem_cons_self)
    have X := pass_of hsel hf hr h2 hne hos h3
    have Y := pass_of hsel h1 h2 hr (Ne.symm hne) h3 hos
    refine ⟨Y.fr, X.jr, oi, h3, v, h4.same (X.ej a u) (X.wj a u), ?_⟩
    rw [X.lc, X.cm]
    exact flo_put hsel hos r _ _ h5 X.fr X.ir (fun h => hn (List.mem_cons_of_mem _ h)) hE
theorem made (hF : Grants F n0 P ops) (hsel : Region.noSelect ops = true) (hos : ops[s]? = some os) {C2 : List (Nat × List Nat)} {p : Nat} (hp : w0.heap.size ≤ p) : ∀ (C : List (Nat × List Nat)) (listed : Array Bool) (a : Act) (w : World), (∀ c ∈ C, s ∉ c.2) →
    Below w0.heap.size w0 w → w.heap[p]? = some Z → FreeP ops md listed s → s ∈ Region.ready md ops listed → U P F n0 ops md w0 Q s os Z C2 C listed a w → Seq3.Ch3 P F n0 ops md w0 Q (C ++ C2) (listed.setIfInBounds s true) (a.put os.dst (.pointer (some ⟨p, 0, none⟩))) w
  | [], listed, a, w, _, _, hz, _, _, h => h.2 p w (Below.refl _ _) hz hp
  | c :: C, listed, a, w, hc, hb, hz, hf, hr, h => by
    obtain ⟨_, hk, hne, hrd, hall⟩ := h
    obtain ⟨ok, hok, hW⟩ := hall w (Below.refl _ _)
    have X := pass_of hsel hf hr hk hne hos hok
    refine ⟨hrd, ok, hok, ?_⟩
    refine list_mono ?_ (one_over (Q := Q) hF hok (X.ej a _) (X.wj a _) (fun a u => X.cm a _ u) hW)
    rintro a' w' ⟨a2, rfl, hb2, hb3, hfl⟩
    refine ⟨hb2, ?_⟩
    rw [X.lc]
    have hz' : w'.heap[p]? = some Z := (hb3.block _ (blk_lt' hz)).trans hz
    exact flo_put hsel hos c.2 _ _ hfl X.fr X.ir (hc c List.mem_cons_self) fun l a hf2 hr2 hU => made hF hsel hos hp C l a w' (fun c' h' => hc c' (List.mem_cons_of_mem _ h')) hb2 hz' hf2 hr2 hU
theorem soundU (hF : Grants F n0 P ops) (hsel : Region.noSelect ops = true) (hos : ops[s]? = some os) (hal : ∀ a : Act, Region.wanted os (yielded ops a.tmps) = true ∧ ∀ w, (execOp a.eval os).run P w = .ok (.value (.pointer (some ⟨w.heap.size, 0, none⟩))) (w.alloc Z)) {C2 : List (Nat × List Nat)} :
    ∀ (n : Nat) (L : List Nat) (C : List (Nat × List Nat)) (listed : Array Bool) (a : Act) (w : World), L.length + size3 C + 1 + size3 C2 = n → s ∉ L → (∀ c ∈ C, s ∉ c.2) → FreeP ops md listed s → s ∈ Region.ready md ops listed → Below w0.heap.size w0 w → Seq2.Flo P ops md w0 (U P F n0 ops md w0 Q s os Z C2 C) L listed a w →
    wpAnyIn F n0 P md ops Q n listed a w := by
  intro n
  induction n with
  | zero => intro L C listed a w hn; omega
  | succ n ih =>
    intro L C listed a w hn hsL hc hf hr hb h
    refine ⟨fun h0 => ?_, fun j hj => ?_⟩
    · rw [h0] at hr; cases hr
    · by_cases hjs : j = s
      · subst hjs
        unfold wpOpIn
        simp only [hos]
        simp only [(hal a).1, if_true]
        refine ⟨fun f _ => hF.fn f, ?_⟩
        rw [hF.sem _ _ hos, (hal a).2 w]
        have hb' := hb.trans ((one_alloc (w := w) Z).mono hb.size)
        refine Seq3.sound hF hsel _ L (C ++ C2) _ _ _ ?_ hb' (flo_put hsel hos L _ _ (flo_mono (fun l a hU => U.mono (one_alloc Z) C l a hU) L _ _ h) hf hr hsL fun l a hf2 hr2 hU => made hF hsel hos hb.size C l a _ hc hb' (alloc_new w Z) hf2 hr2 hU)
        rw [size3_app]; omega
      · by_cases hjL : j ∈ L
        · obtain ⟨u, oj, hoj, hpu, L', hl, hsub, hK⟩ := Seq2.Flo.front hsel L listed a w h j hj hjL
          have X := pass_of hsel hf hr hj (Ne.symm hjs) hos hoj
          unfold wpOpIn
          simp only [hoj]
          rcases hpu with ⟨hw, hv⟩ | ⟨hw, rfl⟩
          · simp only [hw, if_true]
            refine ⟨fun f _ => hF.fn f, ?_⟩
            rw [hF.sem _ _ hoj, hv w hb]
            exact ih L' C _ _ _ (by omega) (fun h => hsL (hsub _ h)) hc X.fr X.ir hb hK
          · simp only [hw, Bool.false_eq_true, if_false]
            exact ⟨fun f _ => hF.fn f, ih L' C _ _ _ (by omega) (fun h => hsL (hsub _ h)) hc X.fr X.ir hb hK⟩
        · obtain ⟨l', a', hE, hsub⟩ := Seq2.Flo.last L listed a w h
          match C, hn, hc, h, hE with
          | [], _, _, _, hE => have := hsub j hj hjL; rw [hE.1] at this; exact absurd (by simpa using this) hjs
          | c :: C, hn, hc, h, hE =>
            obtain rfl : j = c.1 := (hE.1 j (hsub j hj hjL)).resolve_left hjs
            obtain ⟨oj, hoj, hW⟩ := chain hF hsel L listed a w (flo_mono (E' := One P F n0 ops w0 Q c.1 (fun l' a' w'' => Below w.heap.size w w'' ∧ Seq2.Flo P ops md w0 (U P F n0 ops md w0 Q s os Z C2 C) c.2 l' a' w'')) (fun l a hU => hU.2.2.2.2 w (Below.refl _ _)) L _ _ h) hj hjL
            have X := pass_of hsel hf hr hj (Ne.symm hjs) hos hoj
            refine one_op hoj (fun a' w' hh => ih (L ++ c.2) C _ _ _ (by simp only [size3] at hn; simp; omega) ?_ (fun c' h' => hc c' (List.mem_cons_of_mem _ h')) X.fr X.ir hh.1 (flo_app L _ _ _ (flo_mono (fun l a hU => hU.2) L _ _ hh.2))) hW
            exact fun h' => (List.mem_append.1 h').elim hsL (hc c List.mem_cons_self)
theorem wp_region {id : Nat} {a : Act} {w : World} {l : List Oper} {Q : Exit → Act → World → Prop} (w0 : World) (s : Nat) (os : Oper) (Z : Obj) (L : List Nat) (C C2 : List (Nat × List Nat)) (hm : P.follows .mixedOrders = true) (hsel : Region.noSelect l.toArray = true) (hos : l.toArray[s]? = some os)
    (hal : ∀ a : Act, Region.wanted os (yielded l.toArray a.tmps) = true ∧ ∀ w, (execOp a.eval os).run P w = .ok (.value (.pointer (some ⟨w.heap.size, 0, none⟩))) (w.alloc Z))
    (hf : Region.free .any l.toArray (Array.replicate l.toArray.size false) s = true) (hr : (Region.ready .any l.toArray (Array.replicate l.toArray.size false)).contains s = true) (hsL : L.contains s = false) (hc : C.all (fun c => !c.2.contains s) = true)
    (hlen : L.length + size3 C + 1 + size3 C2 = l.length) (hb : Below w0.heap.size w0 w)
    (h : ∀ w1, w1.heap = w.heap → Below w.heap.size w w1 → Seq2.FL P l.toArray .any w0 (U P Fence.wide 0 l.toArray .any w0 Q s os Z C2 C) 0 l L (Array.replicate l.toArray.size false) a w1) : (Code.region id l.toArray true).wp P Q a w := by
  refine wpIn_wide (n := 0) |>.1 (wpIn_region_any hm ?_)
  have h1 : Below w.heap.size w { w with drawn := w.drawn + 1 } := ⟨rfl, rfl, rfl, Nat.le_refl _, fun _ _ => rfl⟩
  have h2 := soundU (w0 := w0) (md := .any) (Q := Q) (grants_wide P _) hsel hos hal _ L C (Array.replicate l.toArray.size false) a { w with drawn := w.drawn + 1 } rfl (fun h => by rw [List.contains_iff_mem.2 h] at hsL; cases hsL)
    (fun c hcc h => by have := List.all_eq_true.1 hc c hcc; rw [List.contains_iff_mem.2 h] at this; cases this) (fun oi hoi => by obtain rfl := Option.some.inj (hos.symm.trans hoi); exact Region.free_spec hos hf) (List.contains_iff_mem.1 hr)
    ⟨hb.os, hb.tape, hb.output, hb.size, hb.block⟩ ((h { w with drawn := w.drawn + 1 } rfl h1).out (fun j => by simp))
  rw [hlen] at h2
  exact h2
theorem u_one {k : Nat} {L : List Nat} {o : Oper} {C C2 : List (Nat × List Nat)} {listed : Array Bool} {a : Act} {w : World} (hs : ((Region.ready md ops listed).all (fun j => j == s || j == k) && ((Region.ready md ops listed).contains k && (s != k && (Region.ready md ops (listed.setIfInBounds s true) == [k])))) = true) (ho : ops[k]? = some o)
    (h : ∀ w', Below w.heap.size w w' → wpListIn F n0 P ops (chQ (fun a' w'' => Below w0.heap.size w0 w'' ∧ Below w'.heap.size w' w'' ∧ Seq2.Flo P ops md w0 (U P F n0 ops md w0 Q s os Z C2 C) L (listed.setIfInBounds k true) a' w'') Q) [o] a w') : U P F n0 ops md w0 Q s os Z C2 ((k, L) :: C) listed a w := by
  simp only [Bool.and_eq_true, List.all_eq_true, Bool.or_eq_true, beq_iff_eq, bne_iff_ne, ne_eq, List.contains_iff_mem] at hs
  exact ⟨hs.1, hs.2.1, hs.2.2.1, hs.2.2.2, fun w' hb => ⟨o, ho, h w' hb⟩⟩
theorem u_nil {C2 : List (Nat × List Nat)} {listed : Array Bool} {a : Act} {w : World} (hs : (Region.ready md ops listed == [s]) = true) (h : ∀ p w', Below w.heap.size w w' → w'.heap[p]? = some Z → w0.heap.size ≤ p → Seq3.Ch3 P F n0 ops md w0 Q C2 (listed.setIfInBounds s true) (a.put os.dst (.pointer (some ⟨p, 0, none⟩))) w') :
    U P F n0 ops md w0 Q s os Z C2 [] listed a w := ⟨by simpa using hs, h⟩
end
end Go.Proofs.YtcjpplijbdfgbaaDoor.Seq4
