/- Several texts in one: PolyArea, AppN, Collect, SegCross, SegEnds, SegTouch. -/
import Derived.Test.YtmfchcaidfloaaaK4
import Derived.WalkKit
import Derived.ProofKit
import Derived.OpenShut
import Derived.Lib.Hide
import Derived.LoopTactic
import Derived.Laws.OwnMore
import Derived.OwnWalkIn
import Derived.Test.YtmfchcaidfloaaaSegCont
namespace Go.Proofs.Ytmfchcaidfloaaa
attribute [local go_sem] Oper.semAt_some
open Go.Shelf Go.ChangeShapes Go.WideShapes Go.ChangeAt Go.RowKit
set_option linter.unusedVariables false

theorem own_boxed {β : Type} {B B0 : Nat} {t : TypeId} {f : β → Value} (h : B < B0) : OwnFrom B0 (fun (s : β) W => Boxed W B t (f s)) := fun s X Y row hs hg hr =>
  hs.kept hg (fun e => by obtain ⟨h1, _⟩ := hr B e.symm; omega)
theorem own_cells {B : Nat} {E : Nat} {o : Obj} (ho : o.isCells = true) : OwnFrom B (fun (_ : Unit) W => W.heap[E]? = some o) := fun s X Y row hs hg hr => by
  have hE : E < X.heap.size := (Array.getElem?_eq_some_iff.1 hs).1
  refine (hg.block E hE (fun e => ?_)).trans hs
  obtain ⟨_, o', h1, h2⟩ := hr E e.symm
  rw [hs] at h1
  obtain rfl := Option.some.inj h1
  rw [ho] at h2; cases h2
theorem belowK_put {B D : Nat} {X Y : World} {o o' : Obj} (h : Below B X Y) (hD : B ≤ D) (hd : Y.heap[D]? = some o) : Below B X (Y.putObj D o') :=
  ⟨h.os, h.tape, h.output, by simp [World.putObj]; exact h.size, fun k hk => (World.putObj_heap_other (by omega)).trans (h.block k hk)⟩
/-- The sum over the rounds that have been. -/
def sumOf (f : Nat → Int) (pre : List Nat) : Int := (pre.map f).sum
theorem sumOf_range (f : Nat → Int) (n : Nat) : sumOf f (List.range n) = sumTo f n := by
  induction n with
  | zero => rfl
  | succ n ih => rw [range_snoc, sumOf, List.map_append, List.sum_append, sumTo, ← ih]; simp [sumOf]
theorem sumOf_snoc (f : Nat → Int) (pre : List Nat) (x : Nat) : sumOf f (pre ++ [x]) = sumOf f pre + f x := by simp [sumOf]
theorem sumOf_bd (f : Nat → Int) (M : Int) (h : ∀ k, -M ≤ f k ∧ f k ≤ M) (pre : List Nat) : -(pre.length * M) ≤ sumOf f pre ∧ sumOf f pre ≤ pre.length * M := by
  induction pre with
  | nil => simp [sumOf]
  | cons a l ih =>
    have h2 := h a
    have e : ((l.length + 1 : Nat) : Int) * M = l.length * M + M := by rw [Int.natCast_add, Int.add_mul]; simp
    have e2 : sumOf f (a :: l) = f a + sumOf f l := by simp [sumOf]
    simp only [List.length_cons]
    rw [e2]
    omega
def crF (zs : List P2) (k : Nat) : Int := crP (pt zs k) (pt zs (k + 1))
/-- Between two rounds of the sum: the variable holds it, and nothing that was there has changed. -/
def SumAt (f : Nat → Int) (w : World) (S : Nat) (t : TypeId) (pre : List Nat) (W : World) : Prop := Below w.heap.size w W ∧ Boxed W S t (.int .i64 (sumOf f pre))
theorem sumAt_own (f : Nat → Int) {w : World} {S B : Nat} {t : TypeId} (hB : w.heap.size ≤ B) (hS : S < B) : OwnFrom B (SumAt f w S t) := fun s X Y row hs hg hr =>
  ⟨ownFrom_below (β := Unit) (Nat.le_refl _) hB () X Y row hs.1 hg hr, own_boxed (β := List Nat) (f := fun pre => .int .i64 (sumOf f pre)) hS s X Y row hs.2 hg hr⟩
end Go.Proofs.Ytmfchcaidfloaaa
namespace Go.Proofs.Ytmfchcaidfloaaa
open Go.ChangeShapes Go.WideShapes Go.ChangeAt Go.RowKit

theorem new_cells (w : World) (us : List Value) (te : TypeId) (j : Nat) (y : Value) (h : us[j]? = some y) : (w.alloc (.cells us.toArray te)).cell? (Addr.add ⟨w.heap.size, 0, none⟩ j) = some y := by
  have e : (w.alloc (.cells us.toArray te)).heap[w.heap.size]? = some (.cells us.toArray te) := by show (w.heap.push _)[w.heap.size]? = _; simp
  have e2 : Addr.add ⟨w.heap.size, 0, none⟩ j = ⟨w.heap.size, j, none⟩ := by
    unfold Addr.add
    split
    · subst_vars; rfl
    · simp
  rw [e2]
  unfold World.cell?
  simp only [e]
  simp [h]
section
variable {P : Program} {w : World} {us : List Value} {te : TypeId} {ops : Array Oper} {rest : List Oper} {o : Oper} {a : Act} {Q : Exit → Act → World → Prop}
theorem wpList_appN (hgd : o.guard = none) (s x : Operand) (t : TypeId)
    (ho : o.op = .call { callee := .builtin .append, args := #[s, x], argTypes := #[t, t] })
    (base : Nat) (e : TypeId) (i : TypeInfo) (z : Value) (size bytes : Nat) (ht : P.underlying t = some (.slice e)) (hi : P.info? e = some i) (hz : i.zero = some z)
    (hsize : i.size = size) (hby : i.bytes = bytes) (hzs : z.cells.size = size) (h0 : 0 < size)
    (v : Value) (n : Nat) (xs : List Value) (hs : a.eval s = v) (hown : w.ownsRow base e size v n xs)
    (b : Nat) (hx : a.eval x = .slice (some ⟨b, 0, none⟩) 1 1) (hb : b = w.heap.size) (hl : us.length = size) (h1 : us.all (·.oneCell') = true)
    (h63 : n + 1 ≤ 140737488355328) (hbytes : (n + 1) * bytes ≤ 140737488355328) (hbase : base ≤ w.heap.size)
    (h : ∀ v' w', w'.ownsRow base e size v' (n + 1) (xs ++ us) → (w.alloc (.cells us.toArray te)).grownBy w' v.ownBlock → wpList P ops Q rest (a.put o.dst v') w') : wpList P ops Q (o :: rest) a (w.alloc (.cells us.toArray te)) := by
  subst hb
  refine wpList_append_own (w.alloc (.cells us.toArray te)) hgd s x t ho base e i z size bytes ht hi hz hsize hby hzs h0 v n xs hs (hown.alloc _) ⟨w.heap.size, 0, none⟩ 1 1 us hx (by omega) ?_ ?_ ?_ hbytes (by simp; omega) (fun v' w' h2 h3 _ => h v' w' h2 h3)
  · intro j y hj; exact new_cells w us te j y hj
  · intro y hy; exact List.all_eq_true.1 h1 y hy
  · unfold maxLen; omega
theorem wpListIn_appN {F : Fence} {m : Nat} (hgd : o.guard = none) (s x : Operand) (t : TypeId)
    (ho : o.op = .call { callee := .builtin .append, args := #[s, x], argTypes := #[t, t] })
    (base : Nat) (e : TypeId) (i : TypeInfo) (z : Value) (size bytes : Nat) (ht : P.underlying t = some (.slice e)) (hi : P.info? e = some i) (hz : i.zero = some z)
    (hsize : i.size = size) (hby : i.bytes = bytes) (hzs : z.cells.size = size) (h0 : 0 < size)
    (v : Value) (n : Nat) (xs : List Value) (hs : a.eval s = v) (hown : w.ownsRow base e size v n xs)
    (b : Nat) (hx : a.eval x = .slice (some ⟨b, 0, none⟩) 1 1) (hb : b = w.heap.size) (hl : us.length = size) (h1 : us.all (·.oneCell') = true)
    (h63 : n + 1 ≤ 140737488355328) (hbytes : (n + 1) * bytes ≤ 140737488355328) (hbase : base ≤ w.heap.size)
    (h : ∀ v' w', w'.ownsRow base e size v' (n + 1) (xs ++ us) → (w.alloc (.cells us.toArray te)).grownBy w' v.ownBlock → wpListIn F m P ops Q rest (a.put o.dst v') w') : wpListIn F m P ops Q (o :: rest) a (w.alloc (.cells us.toArray te)) := by
  subst hb
  refine wpListIn_append_own (w.alloc (.cells us.toArray te)) hgd s x t ho base e i z size bytes ht hi hz hsize hby hzs h0 v n xs hs (hown.alloc _) ⟨w.heap.size, 0, none⟩ 1 1 us hx (by omega) ?_ ?_ ?_ hbytes (by simp; omega) (fun v' w' h2 h3 _ => h v' w' h2 h3)
  · intro j y hj; exact new_cells w us te j y hj
  · intro y hy; exact List.all_eq_true.1 h1 y hy
  · unfold maxLen; omega
end
end Go.Proofs.Ytmfchcaidfloaaa
namespace Go.Proofs.Ytmfchcaidfloaaa
attribute [local go_sem] Oper.semAt_some
open Go.Shelf Go.ChangeShapes Go.WideShapes Go.ChangeAt Go.RowKit
set_option linter.unusedVariables false

def segC (zs : List P2) (k : Nat) : List Value := [.int .i64 (pt zs k).1, .int .i64 (pt zs k).2, .int .i64 (pt zs (k + 1)).1, .int .i64 (pt zs (k + 1)).2]
def segCs (zs : List P2) (pre : List Nat) : List Value := pre.flatMap (segC zs)
theorem segCs_snoc (zs : List P2) (pre : List Nat) (x : Nat) : segCs zs (pre ++ [x]) = segCs zs pre ++ segC zs x := by simp [segCs]
end Go.Proofs.Ytmfchcaidfloaaa
namespace Go.Proofs.Ytmfchcaidfloaaa
open Go.ChangeShapes Go.WideShapes Go.ChangeAt Go.RowKit

def dvB (xa ya xb yb xc yc xd yd : Int) : Bool := decide (sdI xa ya xb yb xc yc * sdI xa ya xb yb xd yd < 0)
end Go.Proofs.Ytmfchcaidfloaaa
namespace Go.Proofs.Ytmfchcaidfloaaa
open Go.ChangeShapes Go.WideShapes Go.ChangeAt Go.RowKit

def EndsPost (xa ya xb yb : Int) (w : World) (e : Ending) (w2 : World) : Prop := ∃ p, e = .returned (.slice (some ⟨p, 0, none⟩) 2 2) ∧ MadeAt w w2 p (.cells #[.int .i64 xa, .int .i64 ya, .int .i64 xb, .int .i64 yb] 57 (0, 0))
def firstI (b c : Bool) : Int := if b then 0 else if c then 1 else -1
def IxInv (b c : Bool) (k : Nat) : Prop := (0 < k → b = false) ∧ (1 < k → c = false)
theorem ix_end (b c : Bool) (k : Nat) (h : IxInv b c k) (hk : ¬ k < 2) : (-1 : Int) = firstI b c := by
  rw [h.1 (by omega), h.2 (by omega)]; rfl
theorem first_ge (b c : Bool) : decide (0 ≤ firstI b c) = (b || c) := by cases b <;> cases c <;> rfl
theorem first_rng (b c : Bool) : -1 ≤ firstI b c ∧ firstI b c ≤ 1 := by cases b <;> cases c <;> decide
end Go.Proofs.Ytmfchcaidfloaaa
namespace Go.Proofs.Ytmfchcaidfloaaa
open Go.ChangeShapes Go.WideShapes Go.ChangeAt Go.RowKit

end Go.Proofs.Ytmfchcaidfloaaa
