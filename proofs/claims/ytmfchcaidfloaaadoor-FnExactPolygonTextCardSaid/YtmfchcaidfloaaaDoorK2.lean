/- Several texts in one: PolyArea, AppN, Collect, SegCross, SegEnds, SegTouch. -/
import Derived.Test.YtmfchcaidfloaaaDoorK4
import Derived.WalkKit
import Derived.ProofKit
import Derived.OpenShut
import Derived.Lib.Hide
import Derived.LoopTactic
import Derived.Laws.OwnMore
import Derived.OwnWalkIn
import Derived.Test.YtmfchcaidfloaaaDoorSegCont
namespace Go.Proofs.YtmfchcaidfloaaaDoor
attribute [local go_sem] Oper.semAt_some
open Go.Shelf Go.ChangeShapes Go.WideShapes Go.ChangeAt Go.RowKit
set_option linter.unusedVariables false

theorem own_boxed {β : Type} {B B0 : Nat} {t : TypeId} {f : β → Value} (h : B < B0) : OwnFrom B0 (fun (s : β) W => Boxed W B t (f s)) := fun s X Y row hs hg hr =>
  hs.kept hg (fun e => by obtain ⟨h1, _⟩ := hr B e.symm; omega)
theorem own_cells {B : Nat} {E : Nat} {o : Obj} (ho : o.isCells = true) : OwnFrom B (fun (_ : Unit) W => W.heap[E]? = some o) := fun s X Y row hs hg hr => by
  have hE : E < X.heap.size := (Array.getElem?_eq_some_iff.1 hs).1
  refine (hg.block E hE (fun e => ?_)).trans hs
  obtain ⟨_, o', h1, h2⟩ := hr E e.symm
  rw [hs] at h1
  obtain rfl := Option.some.inj h1
  rw [ho] at h2; cases h2
theorem belowK_put {B D : Nat} {X Y : World} {o o' : Obj} (h : Below B X Y) (hD : B ≤ D) (hd : Y.heap[D]? = some o) : Below B X (Y.putObj D o') :=
  ⟨h.os, h.tape, h.output, by simp [World.putObj]; exact h.size, fun k hk => (World.putObj_heap_other (by omega)).trans (h.block k hk)⟩
def seg4 (zs : List P2) (k : Nat) : Obj := .cells #[.int .i64 (pt zs k).1, .int .i64 (pt zs k).2, .int .i64 (pt zs (k + 1)).1, .int .i64 (pt zs (k + 1)).2] 159 (0, 0)
/-- The sum over the rounds that have been. -/
def sumOf (f : Nat → Int) (pre : List Nat) : Int := (pre.map f).sum
theorem sumOf_range (f : Nat → Int) (n : Nat) : sumOf f (List.range n) = sumTo f n := by
  induction n with
  | zero => rfl
  | succ n ih => rw [range_snoc, sumOf, List.map_append, List.sum_append, sumTo, ← ih]; simp [sumOf]
theorem sumOf_snoc (f : Nat → Int) (pre : List Nat) (x : Nat) : sumOf f (pre ++ [x]) = sumOf f pre + f x := by simp [sumOf]
theorem sumOf_bd (f : Nat → Int) (M : Int) (h : ∀ k, -M ≤ f k ∧ f k ≤ M) (pre : List Nat) : -(pre.length * M) ≤ sumOf f pre ∧ sumOf f pre ≤ pre.length * M := by
  induction pre with
  | nil => simp [sumOf]
  | cons a l ih =>
    have h2 := h a
    have e : ((l.length + 1 : Nat) : Int) * M = l.length * M + M := by rw [Int.natCast_add, Int.add_mul]; simp
    have e2 : sumOf f (a :: l) = f a + sumOf f l := by simp [sumOf]
    simp only [List.length_cons]
    rw [e2]
    omega
def crF (zs : List P2) (k : Nat) : Int := crP (pt zs k) (pt zs (k + 1))
/-- Between two rounds of the sum: the variable holds it, and nothing that was there has changed. -/
def SumAt (f : Nat → Int) (w : World) (S : Nat) (t : TypeId) (pre : List Nat) (W : World) : Prop := Below w.heap.size w W ∧ Boxed W S t (.int .i64 (sumOf f pre))
theorem sumAt_own (f : Nat → Int) {w : World} {S B : Nat} {t : TypeId} (hB : w.heap.size ≤ B) (hS : S < B) : OwnFrom B (SumAt f w S t) := fun s X Y row hs hg hr =>
  ⟨ownFrom_below (β := Unit) (Nat.le_refl _) hB () X Y row hs.1 hg hr, own_boxed (β := List Nat) (f := fun pre => .int .i64 (sumOf f pre)) hS s X Y row hs.2 hg hr⟩
set_option maxRecDepth 100000 in
set_option maxHeartbeats 4000000 in
theorem area_impl (b len cap : Nat) (zs : List P2) (w : World) (hz : len = zs.length) (h1 : 1 ≤ len) (hl : len ≤ 24) (hv : allOk zs = true) (hp : PtsAt w b zs) :
    Calls Tryd.prog 114 #[.slice (some ⟨b, 0, none⟩) len cap] w fun e w' => e = .returned (.int .i64 (areaI zs)) ∧ Below w.heap.size w w' := by
  have HZ := Lib.hid hz
  have HP := Lib.hid hp
  have HV := Lib.hid hv
  have hbw := hp.1
  clear hz hp hv
  refine callsIn_wide (n := 2) |>.1 ?_
  refine callsIn_of_wp_marks Tryd.func114 rfl trivial ?_ rfl
  simp only [Tryd.ntmps114, List.size_toArray, List.length_cons, List.length_nil, Nat.reduceAdd, Nat.reduceSub, Array.replicate_succ, Array.replicate_zero, List.push_toArray, List.append_toArray, List.nil_append, List.cons_append]
  gi_wp2_with fail
  refine ⟨trivial, (callsIn_wide.2 (edges_any _ _ _ _)).mono ?_⟩
  rintro e w1 ⟨B, rfl, hm⟩
  have hB := hm.high
  have hBc : w1.cell? ⟨B, 0, none⟩ = some (.slice (some ⟨b, 0, none⟩) len cap) := by simp [World.cell?, hm.here]
  have HM := Lib.hid hm.below
  have hlow := hm.low
  clear hm
  have hw1 : w.heap.size < w1.heap.size := by have := HM.out.size; simp at this; omega
  have hlow' : w.heap.size < B := by simp at hlow; omega
  have HB1 : Hid (Below w.heap.size w w1) := Lib.hid (bseq (one_alloc _) HM.out)
  have HBOX : Hid (Boxed w1 w.heap.size 2 (.int .i64 0)) := Lib.hid ((Boxed.new w 2 (.int .i64 0)).kept (grown_none HM.out) (by simp))
  gi_wp2
  refine wp_edges B b len cap zs HZ.out h1 (by omega) rfl hB hBc (HP.out.below HB1.out HP.out.1) (SumAt (crF zs) w w.heap.size 2) (fun _ _ _ => False) (sumAt_own _ (by omega) hw1) (fun _ _ _ _ _ h _ _ => h) ⟨HB1.out, HBOX.out⟩
    (fun x a' W => ∃ E, w1.heap.size ≤ E ∧ W.heap[E]? = some (seg4 zs x) ∧ a' = { tmps := #[.slice (some ⟨b, 0, none⟩) len cap, undef, .int .i64 0, .pointer (some ⟨w.heap.size, 0, none⟩), .pointer (some ⟨E, 0, none⟩), .slice (some ⟨b, 0, none⟩) len cap, .func (.func 154) #[] #[.pointer (some ⟨B, 0, none⟩)], segV zs x, undef, undef, undef, undef, undef, undef, undef, undef], defers := [] }) ?_ ?_ ?_ ?_ ?_
  · rintro x a' _ X Y row ⟨E, h1, h2, h3⟩ hg hr
    exact ⟨E, h1, own_cells rfl () X Y row h2 hg hr, h3⟩
  · intro l pre x W K hW hI hK
    unfold segV
    gi_wp2
    refine hK _ _ ((KeepsOthers.alloc _ _).from _) (Keep2.of_below (one_alloc _) (by omega) (by omega)) ((sumAt_own (B := w1.heap.size) _ (by omega) hw1).alloc _ hI) ⟨W.heap.size, hW, World.alloc_heap_new _ _, rfl⟩
  · rintro l pre x a' W hW hI ⟨E, hE1, hE2, rfl⟩ hlen
    have HI := Lib.hid hI
    obtain ⟨c0, f0, c1, f1, c2, f2, c3, f3⟩ := cells4_of hE2
    have hsc := hI.2.cell
    have hsf := hI.2.frozen
    have hEW : E < W.heap.size := (Array.getElem?_eq_some_iff.1 hE2).1
    have hSW : w.heap.size < W.heap.size := by omega
    have o1 := pt_ok HV.out (by have := HZ.out; omega) x
    have o2 := pt_ok HV.out (by have := HZ.out; omega) (x + 1)
    have b1 := ok_bd o1
    have b2 := ok_bd o2
    have hbd := sumOf_bd (crF zs) 400000000 (fun k => cr_bd (pt_ok HV.out (by have := HZ.out; omega) k) (pt_ok HV.out (by have := HZ.out; omega) (k + 1))) pre
    have HS := Lib.hid (sumOf_snoc (crF zs) pre x)
    have HF := Lib.hid (show crF zs x = (pt zs x).1 * (pt zs (x + 1)).2 - (pt zs x).2 * (pt zs (x + 1)).1 from rfl)
    generalize sumOf (crF zs) pre = s at *
    generalize (pt zs x).1 = xa at *
    generalize (pt zs x).2 = ya at *
    generalize (pt zs (x + 1)).1 = xb at *
    generalize (pt zs (x + 1)).2 = yb at *
    have m1 := mulB xa yb 20000 20000 (by omega) (by omega) (by omega) (by omega)
    have m2 := mulB ya xb 20000 20000 (by omega) (by omega) (by omega) (by omega)
    have q4 : IntKind.i64.wrap (s + (xa * yb - ya * xb)) = s + (xa * yb - ya * xb) := IntWalk.i64_in _ (by omega)
    clear hI hE2 f0 f1 f2 f3 o1 o2
    gi_wp2
    refine wpIn_region_plan (grants_round l 0 _ _ (by kernel_rfl)) 1 [7] [.val 0 [] (.int .i64 s), .val 1 [] (.pointer (some ⟨E, 0, none⟩)), .val 2 [] (.agg #[.int .i64 xa, .int .i64 ya]), .val 3 [] (.pointer (some ⟨E, 2, none⟩)), .val 4 [] (.agg #[.int .i64 xb, .int .i64 yb]), .val 5 [] (.int .i64 (xa * yb - ya * xb)), .val 6 [] (.int .i64 (s + (xa * yb - ya * xb)))] (by kernel_rfl) (by kernel_rfl) rfl ?_
    refine plan_val (by kernel_rfl) (by kernel_rfl) (by kernel_rfl) (by go_simp) (fun w1 hw1 => ?_) ?_
    · obtain ⟨hc, hf⟩ := bcell hw1; clear hw1; go_simp; (try with_reducible rfl)
    (try simp only [Act.put, List.setIfInBounds_toArray, List.set_cons_zero, List.set_cons_succ])
    refine plan_val (by kernel_rfl) (by kernel_rfl) (by kernel_rfl) (by go_simp) (fun w1 hw1 => ?_) ?_
    · obtain ⟨hc, hf⟩ := bcell hw1; clear hw1; go_simp; (try with_reducible rfl)
    (try simp only [Act.put, List.setIfInBounds_toArray, List.set_cons_zero, List.set_cons_succ])
    refine plan_val (by kernel_rfl) (by kernel_rfl) (by kernel_rfl) (by go_simp) (fun w1 hw1 => ?_) ?_
    · obtain ⟨hc, hf⟩ := bcell hw1; clear hw1; go_simp; (try with_reducible rfl)
    (try simp only [Act.put, List.setIfInBounds_toArray, List.set_cons_zero, List.set_cons_succ])
    refine plan_val (by kernel_rfl) (by kernel_rfl) (by kernel_rfl) (by go_simp) (fun w1 hw1 => ?_) ?_
    · obtain ⟨hc, hf⟩ := bcell hw1; clear hw1; go_simp; (try with_reducible rfl)
    (try simp only [Act.put, List.setIfInBounds_toArray, List.set_cons_zero, List.set_cons_succ])
    refine plan_val (by kernel_rfl) (by kernel_rfl) (by kernel_rfl) (by go_simp) (fun w1 hw1 => ?_) ?_
    · obtain ⟨hc, hf⟩ := bcell hw1; clear hw1; go_simp; (try with_reducible rfl)
    (try simp only [Act.put, List.setIfInBounds_toArray, List.set_cons_zero, List.set_cons_succ])
    refine plan_call [] 133 #[.agg #[.int .i64 xa, .int .i64 ya], .agg #[.int .i64 xb, .int .i64 yb]] (by kernel_rfl) (by kernel_rfl) (by kernel_rfl) (by kernel_rfl) (by go_simp) (fun w1 hw1 => ?_) (fun w1 hC => ?_) ?_
    · clear hw1; go_simp; (try with_reducible rfl)
    · exact cross_any _ _ _ _ _ (by omega) (by omega) (by omega) (by omega)
    (try simp only [Act.put, List.setIfInBounds_toArray, List.set_cons_zero, List.set_cons_succ])
    refine plan_val (by kernel_rfl) (by kernel_rfl) (by kernel_rfl) (by go_simp) (fun w1 hw1 => ?_) ?_
    · obtain ⟨hc, hf⟩ := bcell hw1; clear hw1; go_simp; (try with_reducible rfl)
    (try simp only [Act.put, List.setIfInBounds_toArray, List.set_cons_zero, List.set_cons_succ])
    refine plan_tail (fun _ => trivial) (by kernel_rfl) (by kernel_rfl) rfl (fun w2 hC => ?_)
    have HB2 := Lib.hid hC.1
    obtain ⟨k2, q2⟩ := bcell hC.1
    have hsc2 := (k2 _ 0 hSW).trans hsc
    have hsf2 := (q2 _ 0 hSW).trans hsf
    clear hC k2 q2 hsc hsf
    gi_wp2
    have hB3 := HB2.out
    refine ⟨(((KeepsOthers.of_grownBy (grown_none hB3) (fun j o e => by cases e))).trans (KeepsOthers.setCell _ _ _)).from _, (Keep2.of_below hB3 (by omega) (by omega)).trans (Keep2.setCell (by show w.heap.size ≠ b; omega) (by show w.heap.size ≠ B; omega) _), ((HI.out.1.trans (hB3.mono (by omega))).setCell (Nat.le_refl _) _), ?_⟩
    show Boxed _ _ _ (.int .i64 (sumOf (crF zs) (pre ++ [x])))
    rw [HS.out, HF.out]
    exact (HI.out.2.kept (grown_none hB3) (by simp)).set _
  · intro D W hD hI hd
    have HI := Lib.hid hI
    have hsc := hI.2.cell
    clear hI
    gi_wp2
    refine ⟨by simp, .inl ⟨_, _, rfl, run_takeDeferred hd, ?_⟩⟩
    refine ⟨_, results_tmp rfl _ _ _, ?_⟩
    exact ⟨ret_int (by rw [sumOf_range, HZ.out]; rfl), belowK_put HI.out.1 (by omega) hd⟩
  · intro D c k W _ _ h _
    exact h.elim
end Go.Proofs.YtmfchcaidfloaaaDoor
namespace Go.Proofs.YtmfchcaidfloaaaDoor
open Go.ChangeShapes Go.WideShapes Go.ChangeAt Go.RowKit

theorem new_cells (w : World) (us : List Value) (te : TypeId) (j : Nat) (y : Value) (h : us[j]? = some y) : (w.alloc (.cells us.toArray te)).cell? (Addr.add ⟨w.heap.size, 0, none⟩ j) = some y := by
  have e : (w.alloc (.cells us.toArray te)).heap[w.heap.size]? = some (.cells us.toArray te) := by show (w.heap.push _)[w.heap.size]? = _; simp
  have e2 : Addr.add ⟨w.heap.size, 0, none⟩ j = ⟨w.heap.size, j, none⟩ := by
    unfold Addr.add
    split
    · subst_vars; rfl
    · simp
  rw [e2]
  unfold World.cell?
  simp only [e]
  simp [h]
section
variable {P : Program} {w : World} {us : List Value} {te : TypeId} {ops : Array Oper} {rest : List Oper} {o : Oper} {a : Act} {Q : Exit → Act → World → Prop}
theorem wpList_appN (hgd : o.guard = none) (s x : Operand) (t : TypeId)
    (ho : o.op = .call { callee := .builtin .append, args := #[s, x], argTypes := #[t, t] })
    (base : Nat) (e : TypeId) (i : TypeInfo) (z : Value) (size bytes : Nat) (ht : P.underlying t = some (.slice e)) (hi : P.info? e = some i) (hz : i.zero = some z)
    (hsize : i.size = size) (hby : i.bytes = bytes) (hzs : z.cells.size = size) (h0 : 0 < size)
    (v : Value) (n : Nat) (xs : List Value) (hs : a.eval s = v) (hown : w.ownsRow base e size v n xs)
    (b : Nat) (hx : a.eval x = .slice (some ⟨b, 0, none⟩) 1 1) (hb : b = w.heap.size) (hl : us.length = size) (h1 : us.all (·.oneCell') = true)
    (h63 : n + 1 ≤ 140737488355328) (hbytes : (n + 1) * bytes ≤ 140737488355328) (hbase : base ≤ w.heap.size)
    (h : ∀ v' w', w'.ownsRow base e size v' (n + 1) (xs ++ us) → (w.alloc (.cells us.toArray te)).grownBy w' v.ownBlock → wpList P ops Q rest (a.put o.dst v') w') : wpList P ops Q (o :: rest) a (w.alloc (.cells us.toArray te)) := by
  subst hb
  refine wpList_append_own (w.alloc (.cells us.toArray te)) hgd s x t ho base e i z size bytes ht hi hz hsize hby hzs h0 v n xs hs (hown.alloc _) ⟨w.heap.size, 0, none⟩ 1 1 us hx (by omega) ?_ ?_ ?_ hbytes (by simp; omega) (fun v' w' h2 h3 _ => h v' w' h2 h3)
  · intro j y hj; exact new_cells w us te j y hj
  · intro y hy; exact List.all_eq_true.1 h1 y hy
  · unfold maxLen; omega
theorem wpListIn_appN {F : Fence} {m : Nat} (hgd : o.guard = none) (s x : Operand) (t : TypeId)
    (ho : o.op = .call { callee := .builtin .append, args := #[s, x], argTypes := #[t, t] })
    (base : Nat) (e : TypeId) (i : TypeInfo) (z : Value) (size bytes : Nat) (ht : P.underlying t = some (.slice e)) (hi : P.info? e = some i) (hz : i.zero = some z)
    (hsize : i.size = size) (hby : i.bytes = bytes) (hzs : z.cells.size = size) (h0 : 0 < size)
    (v : Value) (n : Nat) (xs : List Value) (hs : a.eval s = v) (hown : w.ownsRow base e size v n xs)
    (b : Nat) (hx : a.eval x = .slice (some ⟨b, 0, none⟩) 1 1) (hb : b = w.heap.size) (hl : us.length = size) (h1 : us.all (·.oneCell') = true)
    (h63 : n + 1 ≤ 140737488355328) (hbytes : (n + 1) * bytes ≤ 140737488355328) (hbase : base ≤ w.heap.size)
    (h : ∀ v' w', w'.ownsRow base e size v' (n + 1) (xs ++ us) → (w.alloc (.cells us.toArray te)).grownBy w' v.ownBlock → wpListIn F m P ops Q rest (a.put o.dst v') w') : wpListIn F m P ops Q (o :: rest) a (w.alloc (.cells us.toArray te)) := by
  subst hb
  refine wpListIn_append_own (w.alloc (.cells us.toArray te)) hgd s x t ho base e i z size bytes ht hi hz hsize hby hzs h0 v n xs hs (hown.alloc _) ⟨w.heap.size, 0, none⟩ 1 1 us hx (by omega) ?_ ?_ ?_ hbytes (by simp; omega) (fun v' w' h2 h3 _ => h v' w' h2 h3)
  · intro j y hj; exact new_cells w us te j y hj
  · intro y hy; exact List.all_eq_true.1 h1 y hy
  · unfold maxLen; omega
end
end Go.Proofs.YtmfchcaidfloaaaDoor
namespace Go.Proofs.YtmfchcaidfloaaaDoor
attribute [local go_sem] Oper.semAt_some
open Go.Shelf Go.ChangeShapes Go.WideShapes Go.ChangeAt Go.RowKit
set_option linter.unusedVariables false

def segC (zs : List P2) (k : Nat) : List Value := [.int .i64 (pt zs k).1, .int .i64 (pt zs k).2, .int .i64 (pt zs (k + 1)).1, .int .i64 (pt zs (k + 1)).2]
def segCs (zs : List P2) (pre : List Nat) : List Value := pre.flatMap (segC zs)
theorem segCs_snoc (zs : List P2) (pre : List Nat) (x : Nat) : segCs zs (pre ++ [x]) = segCs zs pre ++ segC zs x := by simp [segCs]
theorem info_seg : (Tryd.prog.info? 159).map (fun i => (i.zero, i.size, i.bytes)) = some (some (.agg #[.int .i64 0, .int .i64 0, .int .i64 0, .int .i64 0]), 4, 32) := by kernel_rfl
/-- Between two rounds: the variable holds a slice of the call's own with what has come. -/
def Coll (zs : List P2) (w : World) (pre : List Nat) (W : World) : Prop := Below w.heap.size w W ∧ ∃ v, Boxed W w.heap.size 160 v ∧ W.ownsRow w.heap.size 159 4 v pre.length (segCs zs pre) ∧ True
theorem coll_own (zs : List P2) {w : World} {B : Nat} (hB : w.heap.size ≤ B) : OwnFrom B (Coll zs w) := fun s X Y row hs hg hr =>
  ⟨ownFrom_below (β := Unit) (Nat.le_refl _) hB () X Y row hs.1 hg hr, (holdsRow_own w.heap.size w.heap.size 160 159 4 (fun (p : List Nat) => p.length) (segCs zs) (fun _ _ => True)).from B s X Y row hs.2 hg hr⟩
def CollPost (zs : List P2) (len : Nat) (w : World) (e : Ending) (w' : World) : Prop := ∃ v, e = .returned v ∧ w'.ownsRow w.heap.size 159 4 v len (segCs zs (List.range len)) ∧ Below w.heap.size w w'
set_option maxRecDepth 100000 in
set_option maxHeartbeats 4000000 in
theorem appendSeq_any (B b len cap : Nat) (zs : List P2) (w : World) (hz : len = zs.length) (h1 : 1 ≤ len) (hl : len ≤ 24) (hB : B < w.heap.size) (hBc : w.cell? ⟨B, 0, none⟩ = some (.slice (some ⟨b, 0, none⟩) len cap)) (hp : PtsAt w b zs) :
    Calls Tryd.prog 153 #[.slice none 0 0, .func (.func 154) #[] #[.pointer (some ⟨B, 0, none⟩)]] w (CollPost zs len w) := by
  have HZ := Lib.hid hz
  have HP := Lib.hid hp
  have hbw := hp.1
  have HBC := Lib.hid hBc
  clear hz hp hBc
  obtain ⟨i0, hi, hz0, hz1, hz2⟩ := info_parts info_seg
  refine callsIn_wide (n := 2) |>.1 ?_
  refine callsIn_of_wp_marks Tryd.func153 rfl trivial ?_ rfl
  simp only [Tryd.ntmps153, List.size_toArray, List.length_cons, List.length_nil, Nat.reduceAdd, Nat.reduceSub, Array.replicate_succ, Array.replicate_zero, List.push_toArray, List.append_toArray, List.nil_append, List.cons_append]
  gi_wp2
  refine wp_edges B b len cap zs HZ.out h1 (by omega) rfl (by simp; omega) ((World.cell?_of_block (Below.heap_alloc _ _ _ hB)).trans HBC.out) (HP.out.below (one_alloc _) hbw) (Coll zs w) (fun _ _ _ => False) (coll_own zs (by simp)) (fun _ _ _ _ _ h _ _ => h)
    ⟨one_alloc _, _, Boxed.new w 160 (.slice none 0 0), ⟨rfl, .inl ⟨rfl, rfl⟩⟩, trivial⟩
    (fun x a' W => ∃ E, w.heap.size + 1 ≤ E ∧ W.heap[E]? = some (seg4 zs x) ∧ a' = { tmps := #[.slice none 0 0, .func (.func 154) #[] #[.pointer (some ⟨B, 0, none⟩)], .pointer (some ⟨w.heap.size, 0, none⟩), undef, .slice none 0 0, .pointer (some ⟨E, 0, none⟩), .func (.func 154) #[] #[.pointer (some ⟨B, 0, none⟩)], segV zs x, undef, undef, undef, undef, undef], defers := [] }) ?_ ?_ ?_ ?_ ?_
  · rintro x a' _ X Y row ⟨E, h1, h2, h3⟩ hg hr
    exact ⟨E, h1, own_cells rfl () X Y row h2 hg hr, h3⟩
  · intro l pre x W K hW hI hK
    simp at hW
    unfold segV
    gi_wp2
    refine hK _ _ ((KeepsOthers.alloc _ _).from _) (Keep2.of_below (one_alloc _) (by omega) (by omega)) ((coll_own zs (B := w.heap.size) (by simp)).alloc _ hI) ⟨W.heap.size, by omega, World.alloc_heap_new _ _, rfl⟩
  · rintro l pre x a' W hW ⟨hb, v, hv, hr, _⟩ ⟨E, hE1, hE2, rfl⟩ hlen
    simp at hW
    obtain ⟨c0, f0, c1, f1, c2, f2, c3, f3⟩ := cells4_of hE2
    have hsc := hv.cell
    have hsf := hv.frozen
    have hEW : E < W.heap.size := (Array.getElem?_eq_some_iff.1 hE2).1
    have HS := Lib.hid (segCs_snoc zs pre x)
    have HF := Lib.hid (show segC zs x = [.int .i64 (pt zs x).1, .int .i64 (pt zs x).2, .int .i64 (pt zs (x + 1)).1, .int .i64 (pt zs (x + 1)).2] from rfl)
    have HV := Lib.hid hv
    have HR := Lib.hid hr
    have HB := Lib.hid hb
    clear hE2 f0 f1 f2 f3 hv hr hb
    generalize (pt zs x).1 = xa at *
    generalize (pt zs x).2 = ya at *
    generalize (pt zs (x + 1)).1 = xb at *
    generalize (pt zs (x + 1)).2 = yb at *
    gi_wp2_with (gi_at_builtin; refine wpListIn_appN (us := [.int .i64 xa, .int .i64 ya, .int .i64 xb, .int .i64 yb]) rfl _ _ 160 rfl w.heap.size 159 i0 _ 4 32 Tryd.underlying160 hi hz0 hz1 hz2 rfl (by omega) v _ _ rfl HR.out W.heap.size rfl rfl rfl rfl (by omega) (by omega) (by omega) ?_)
    intro v' w2 hown hgrow
    obtain ⟨hvb, hvb2, hro2, hko, hbl⟩ := HV.out.appended (by decide) HR.out (by omega) (Nat.le_refl _) hown hgrow
    have hsc2 := hvb.cell
    have hsf2 := hvb.frozen
    obtain ⟨g, cp, rfl⟩ := ownsRow_succ hown
    have H1 := Lib.hid hvb2
    have H2 := Lib.hid hro2
    have H3 := Lib.hid hko
    have H4 := Lib.hid hbl
    clear hvb hvb2 hro2 hko hbl hown hgrow hsc hsf
    gi_wp2
    refine ⟨H3.out.from _, Keep2.of_below H4.out (by omega) hB, (HB.out.trans H4.out), _, H1.out, ?_, trivial⟩
    rw [HS.out, HF.out, List.length_append]
    exact H2.out
  · rintro D W hD ⟨hb, v, hv, hr, _⟩ hd
    have hsc := hv.cell
    have HB := Lib.hid hb
    have HR := Lib.hid hr
    clear hb hv hr
    gi_wp2
    refine ⟨by simp, .inl ⟨_, _, rfl, run_takeDeferred hd, ?_⟩⟩
    refine ⟨_, results_tmp rfl _ _ _, ?_⟩
    refine ⟨v, rfl, ?_, belowK_put HB.out (by simp at hD; omega) hd⟩
    have := HR.out
    rw [List.length_range] at this
    exact ownsRow_putObj this _ hd rfl
  · intro D c k W _ _ h _
    exact h.elim
end Go.Proofs.YtmfchcaidfloaaaDoor
namespace Go.Proofs.YtmfchcaidfloaaaDoor
open Go.ChangeShapes Go.WideShapes Go.ChangeAt Go.RowKit

def dvB (xa ya xb yb xc yc xd yd : Int) : Bool := decide (sdI xa ya xb yb xc yc * sdI xa ya xb yb xd yd < 0)
set_option maxHeartbeats 1000000 in
theorem divides_any (xa ya xb yb xc yc xd yd : Int) (w : World) (ha : okI xa ya = true) (hb : okI xb yb = true) (hc : okI xc yc = true) (hd : okI xd yd = true) :
    Calls Tryd.prog 176 #[.agg #[.int .i64 xa, .int .i64 ya, .int .i64 xb, .int .i64 yb], .agg #[.int .i64 xc, .int .i64 yc, .int .i64 xd, .int .i64 yd]] w fun e w' => e = .returned (.bool (dvB xa ya xb yb xc yc xd yd)) ∧ Below w.heap.size w w' := by
  have hs := Lib.hid (show decide (sdI xa ya xb yb xc yc * sdI xa ya xb yb xd yd < 0) = dvB xa ya xb yb xc yc xd yd from rfl)
  have r1 := side_rng xa ya xb yb xc yc
  have r2 := side_rng xa ya xb yb xd yd
  have r3 := mulB _ _ 1 1 r1.1 r1.2 r2.1 r2.2
  have ba := ok_bd ha
  have bb := ok_bd hb
  have bc := ok_bd hc
  have bd := ok_bd hd
  have HA := Lib.hid ha
  have HB := Lib.hid hb
  have HC := Lib.hid hc
  have HD := Lib.hid hd
  clear ha hb hc hd
  go_enter Tryd.func176, Tryd.ntmps176
  go_wp2
  refine wp_region_below (by kernel_rfl) (by kernel_rfl) ?_
  (refine wq_val (by go_simp) ?_; apply Exists.intro; refine ⟨fun w1 hw1 => ?_, ?_⟩; (obtain ⟨hc, hf⟩ := bcell hw1; clear hw1; go_simp; (try with_reducible rfl)); (try simp only [Act.put, List.setIfInBounds_toArray, List.set_cons_zero, List.set_cons_succ]))
  (refine wq_val (by go_simp) ?_; apply Exists.intro; refine ⟨fun w1 hw1 => ?_, ?_⟩; (obtain ⟨hc, hf⟩ := bcell hw1; clear hw1; go_simp; (try with_reducible rfl)); (try simp only [Act.put, List.setIfInBounds_toArray, List.set_cons_zero, List.set_cons_succ]))
  (refine wq_val (by go_simp) ?_; apply Exists.intro; refine ⟨fun w1 hw1 => ?_, ?_⟩; (obtain ⟨hc, hf⟩ := bcell hw1; clear hw1; go_simp; (try with_reducible rfl)); (try simp only [Act.put, List.setIfInBounds_toArray, List.set_cons_zero, List.set_cons_succ]))
  (refine wq_call 150 (by go_simp) ?_; apply Exists.intro; refine ⟨fun w1 hw1 => ?_, ?_⟩; (clear hw1; go_simp; (try with_reducible rfl)); apply Exists.intro; refine ⟨fun w1 hw1 => ?_, ?_⟩; (exact calls_below hw1 (side_any _ _ _ _ _ _ _ HA.out HB.out HC.out)); (try simp only [Act.put, List.setIfInBounds_toArray, List.set_cons_zero, List.set_cons_succ]))
  (refine wq_val (by go_simp) ?_; apply Exists.intro; refine ⟨fun w1 hw1 => ?_, ?_⟩; (obtain ⟨hc, hf⟩ := bcell hw1; clear hw1; go_simp; (try with_reducible rfl)); (try simp only [Act.put, List.setIfInBounds_toArray, List.set_cons_zero, List.set_cons_succ]))
  (refine wq_val (by go_simp) ?_; apply Exists.intro; refine ⟨fun w1 hw1 => ?_, ?_⟩; (obtain ⟨hc, hf⟩ := bcell hw1; clear hw1; go_simp; (try with_reducible rfl)); (try simp only [Act.put, List.setIfInBounds_toArray, List.set_cons_zero, List.set_cons_succ]))
  (refine wq_val (by go_simp) ?_; apply Exists.intro; refine ⟨fun w1 hw1 => ?_, ?_⟩; (obtain ⟨hc, hf⟩ := bcell hw1; clear hw1; go_simp; (try with_reducible rfl)); (try simp only [Act.put, List.setIfInBounds_toArray, List.set_cons_zero, List.set_cons_succ]))
  (refine wq_call 150 (by go_simp) ?_; apply Exists.intro; refine ⟨fun w1 hw1 => ?_, ?_⟩; (clear hw1; go_simp; (try with_reducible rfl)); apply Exists.intro; refine ⟨fun w1 hw1 => ?_, ?_⟩; (exact calls_below hw1 (side_any _ _ _ _ _ _ _ HA.out HB.out HD.out)); (try simp only [Act.put, List.setIfInBounds_toArray, List.set_cons_zero, List.set_cons_succ]))
  (refine wq_val (by go_simp) ?_; apply Exists.intro; refine ⟨fun w1 hw1 => ?_, ?_⟩; (obtain ⟨hc, hf⟩ := bcell hw1; clear hw1; go_simp; (try with_reducible rfl)); (try simp only [Act.put, List.setIfInBounds_toArray, List.set_cons_zero, List.set_cons_succ]))
  (refine wq_val (by go_simp) ?_; apply Exists.intro; refine ⟨fun w1 hw1 => ?_, ?_⟩; (obtain ⟨hc, hf⟩ := bcell hw1; clear hw1; go_simp; (try with_reducible rfl)); (try simp only [Act.put, List.setIfInBounds_toArray, List.set_cons_zero, List.set_cons_succ]))
  (refine wq_val (by go_simp) ?_; apply Exists.intro; refine ⟨fun w1 hw1 => ?_, ?_⟩; (obtain ⟨hc, hf⟩ := bcell hw1; clear hw1; go_simp; (try with_reducible rfl)); (try simp only [Act.put, List.setIfInBounds_toArray, List.set_cons_zero, List.set_cons_succ]))
  refine wq_nil ?_
  intro w1 hb1
  have HB1 := Lib.hid hb1
  clear hb1
  go_wp2
  go_ret
  exact ⟨ret_bool (by rw [IntWalk.i64_in _ (by omega)]; exact hs.out), bseq (two_allocs _ _) HB1.out⟩
set_option maxHeartbeats 1000000 in
theorem crosses_any (xa ya xb yb xc yc xd yd : Int) (w : World) (ha : okI xa ya = true) (hb : okI xb yb = true) (hc : okI xc yc = true) (hd : okI xd yd = true) :
    Calls Tryd.prog 156 #[.agg #[.int .i64 xa, .int .i64 ya, .int .i64 xb, .int .i64 yb], .agg #[.int .i64 xc, .int .i64 yc, .int .i64 xd, .int .i64 yd]] w fun e w' => e = .returned (.bool (csB xa ya xb yb xc yc xd yd)) ∧ Below w.heap.size w w' := by
  have hs : csB xa ya xb yb xc yc xd yd = (dvB xa ya xb yb xc yc xd yd && dvB xc yc xd yd xa ya xb yb) := rfl
  cases h1 : dvB xa ya xb yb xc yc xd yd
  · rw [h1, Bool.false_and] at hs
    rw [hs]; clear hs
    go_enter Tryd.func156, Tryd.ntmps156
    go_wp2_with fail
    refine (divides_any _ _ _ _ _ _ _ _ _ ha hb hc hd).mono ?_
    rintro e w1 ⟨rfl, hb1⟩
    have HB1 := Lib.hid hb1
    clear hb1
    go_wp2
    go_ret
    exact ⟨rfl, bseq (two_allocs _ _) HB1.out⟩
  · rw [h1, Bool.true_and] at hs
    rw [hs]; clear hs
    go_enter Tryd.func156, Tryd.ntmps156
    go_wp2_with fail
    refine (divides_any _ _ _ _ _ _ _ _ _ ha hb hc hd).mono ?_
    rintro e w1 ⟨rfl, hb1⟩
    obtain ⟨k1, k2⟩ := bcell hb1
    have HB1 := Lib.hid hb1
    clear hb1
    go_wp2_with fail
    refine (divides_any _ _ _ _ _ _ _ _ _ hc hd ha hb).mono ?_
    rintro e w2 ⟨rfl, hb2⟩
    have HB2 := Lib.hid hb2
    clear hb2 k1 k2
    go_wp2
    go_ret
    exact ⟨rfl, bseq (bseq (two_allocs _ _) HB1.out) HB2.out⟩
end Go.Proofs.YtmfchcaidfloaaaDoor
namespace Go.Proofs.YtmfchcaidfloaaaDoor
open Go.ChangeShapes Go.WideShapes Go.ChangeAt Go.RowKit

def EndsPost (xa ya xb yb : Int) (w : World) (e : Ending) (w2 : World) : Prop := ∃ p, e = .returned (.slice (some ⟨p, 0, none⟩) 2 2) ∧ MadeAt w w2 p (.cells #[.int .i64 xa, .int .i64 ya, .int .i64 xb, .int .i64 yb] 90 (0, 0))
theorem ends_any (xa ya xb yb : Int) (w : World) : Calls Tryd.prog 158 #[.agg #[.int .i64 xa, .int .i64 ya, .int .i64 xb, .int .i64 yb]] w (EndsPost xa ya xb yb w) := by
  go_enter Tryd.func158, Tryd.ntmps158
  go_wp2
  go_ret
  exact ⟨w.heap.size + 1, rfl, by have := madeAt_after (one_alloc (w := w) (.cells #[.int .i64 xa, .int .i64 ya, .int .i64 xb, .int .i64 yb] 159 (0, 0))) (madeAt_alloc _ (.cells #[.int .i64 xa, .int .i64 ya, .int .i64 xb, .int .i64 yb] 90 (0, 0))); simpa using this⟩
def firstI (b c : Bool) : Int := if b then 0 else if c then 1 else -1
def IxInv (b c : Bool) (k : Nat) : Prop := (0 < k → b = false) ∧ (1 < k → c = false)
theorem ix_end (b c : Bool) (k : Nat) (h : IxInv b c k) (hk : ¬ k < 2) : (-1 : Int) = firstI b c := by
  rw [h.1 (by omega), h.2 (by omega)]; rfl
set_option maxHeartbeats 1000000 in
theorem index_any (xa ya xb yb xc yc xd yd : Int) (p : Nat) (w : World) (ha : okI xa ya = true) (hb : okI xb yb = true) (hc : okI xc yc = true) (hd : okI xd yd = true) (hp : p < w.heap.size) (c0 : w.cell? ⟨p, 0, none⟩ = some (.int .i64 xa)) (c1 : w.cell? ⟨p, 1, none⟩ = some (.int .i64 ya)) (c2 : w.cell? ⟨p, 2, none⟩ = some (.int .i64 xb)) (c3 : w.cell? ⟨p, 3, none⟩ = some (.int .i64 yb)) :
    Calls Tryd.prog 177 #[.slice (some ⟨p, 0, none⟩) 2 2, .func (.func 128) #[.agg #[.int .i64 xc, .int .i64 yc, .int .i64 xd, .int .i64 yd]] #[]] w fun e w' => e = .returned (.int .i64 (firstI (onB xc yc xd yd xa ya) (onB xc yc xd yd xb yb))) ∧ Below w.heap.size w w' := by
  have HA := Lib.hid ha
  have HB := Lib.hid hb
  have HC := Lib.hid hc
  have HD := Lib.hid hd
  clear ha hb hc hd
  have HC4 := Lib.hid (And.intro c0 (And.intro c1 (And.intro c2 c3)))
  clear c0 c1 c2 c3
  go_enter Tryd.func177, Tryd.ntmps177
  go_wp2
  go_loopw [8] (fun i wr => ∃ k : Nat, k ≤ 2 ∧ i = .int .i64 k ∧ Hid (IxInv (onB xc yc xd yd xa ya) (onB xc yc xd yd xb yb) k) ∧ Hid (Below w.heap.size w wr)) (fun i _ => 2 - (intOf i).toNat)
  case atStart => exact ⟨0, by omega, rfl, Lib.hid ⟨fun h => absurd h (by omega), fun h => absurd h (by omega)⟩, Lib.hid (Below.refl _ _)⟩
  case round =>
    obtain ⟨k, hk, rfl, hi, hb⟩ := hrel
    by_cases hlt : k < 2
    · obtain ⟨b1, b2⟩ := bcell hb.out
      have c0 := (b1 p 0 hp).trans HC4.out.1
      have c1 := (b1 p 1 hp).trans HC4.out.2.1
      have c2 := (b1 p 2 hp).trans HC4.out.2.2.1
      have c3 := (b1 p 3 hp).trans HC4.out.2.2.2
      clear b1 b2
      match k, hlt with
      | 0, _ =>
        cases ho : onB xc yc xd yd xa ya
        · go_wp2_with fail
          refine (contains_any _ _ _ _ _ _ _ HC.out HD.out HA.out).mono ?_
          rintro e w1 ⟨rfl, g1⟩
          have HW1 := Lib.hid g1
          clear g1
          go_wp2
          go_roundw
          case rel => exact ⟨1, by omega, rfl, Lib.hid ⟨fun _ => rfl, fun h => absurd h (by omega)⟩, Lib.hid (bseq hb.out HW1.out)⟩
          case measure => simp [intOf]
        · go_wp2_with fail
          refine (contains_any _ _ _ _ _ _ _ HC.out HD.out HA.out).mono ?_
          rintro e w1 ⟨rfl, g1⟩
          have HW1 := Lib.hid g1
          clear g1
          go_wp2
          go_ret
          exact ⟨ret_int (by rw [ho]; rfl), bseq hb.out HW1.out⟩
      | 1, _ =>
        have h0 := hi.out.1 (by omega)
        cases ho : onB xc yc xd yd xb yb
        · go_wp2_with fail
          refine (contains_any _ _ _ _ _ _ _ HC.out HD.out HB.out).mono ?_
          rintro e w1 ⟨rfl, g1⟩
          have HW1 := Lib.hid g1
          clear g1
          go_wp2
          go_roundw
          case rel => exact ⟨2, by omega, rfl, Lib.hid ⟨fun _ => h0, fun _ => rfl⟩, Lib.hid (bseq hb.out HW1.out)⟩
          case measure => simp [intOf]
        · go_wp2_with fail
          refine (contains_any _ _ _ _ _ _ _ HC.out HD.out HB.out).mono ?_
          rintro e w1 ⟨rfl, g1⟩
          have HW1 := Lib.hid g1
          clear g1
          go_wp2
          go_ret
          exact ⟨ret_int (by rw [h0, ho]; rfl), bseq hb.out HW1.out⟩
    · go_wp2
      go_ret
      exact ⟨ret_int (ix_end _ _ k hi.out hlt), hb.out⟩
theorem first_ge (b c : Bool) : decide (0 ≤ firstI b c) = (b || c) := by cases b <;> cases c <;> rfl
theorem first_rng (b c : Bool) : -1 ≤ firstI b c ∧ firstI b c ≤ 1 := by cases b <;> cases c <;> decide
theorem has_any (xa ya xb yb xc yc xd yd : Int) (p : Nat) (w : World) (ha : okI xa ya = true) (hb : okI xb yb = true) (hc : okI xc yc = true) (hd : okI xd yd = true) (hp : p < w.heap.size) (c0 : w.cell? ⟨p, 0, none⟩ = some (.int .i64 xa)) (c1 : w.cell? ⟨p, 1, none⟩ = some (.int .i64 ya)) (c2 : w.cell? ⟨p, 2, none⟩ = some (.int .i64 xb)) (c3 : w.cell? ⟨p, 3, none⟩ = some (.int .i64 yb)) :
    Calls Tryd.prog 157 #[.slice (some ⟨p, 0, none⟩) 2 2, .func (.func 128) #[.agg #[.int .i64 xc, .int .i64 yc, .int .i64 xd, .int .i64 yd]] #[]] w fun e w' => e = .returned (.bool (onB xc yc xd yd xa ya || onB xc yc xd yd xb yb)) ∧ Below w.heap.size w w' := by
  rw [← first_ge]
  have hx := index_any xa ya xb yb xc yc xd yd p w ha hb hc hd hp c0 c1 c2 c3
  have HX := Lib.hid hx
  clear hx c0 c1 c2 c3
  go_enter Tryd.func157, Tryd.ntmps157
  go_wp2_with fail
  refine HX.out.mono ?_
  rintro e w1 ⟨rfl, g1⟩
  have HW1 := Lib.hid g1
  clear g1
  go_wp2
  go_ret
  exact ⟨rfl, HW1.out⟩
end Go.Proofs.YtmfchcaidfloaaaDoor
namespace Go.Proofs.YtmfchcaidfloaaaDoor
open Go.ChangeShapes Go.WideShapes Go.ChangeAt Go.RowKit

set_option maxHeartbeats 2000000 in
theorem touch_cross (xa ya xb yb xc yc xd yd : Int) (w : World) (ha : okI xa ya = true) (hb : okI xb yb = true) (hc : okI xc yc = true) (hd : okI xd yd = true) (h0 : csB xa ya xb yb xc yc xd yd = true) :
    Calls Tryd.prog 132 #[.agg #[.int .i64 xa, .int .i64 ya, .int .i64 xb, .int .i64 yb], .agg #[.int .i64 xc, .int .i64 yc, .int .i64 xd, .int .i64 yd]] w fun e w' => e = .returned (.bool true) ∧ Below w.heap.size w w' := by
  have HA := Lib.hid ha
  have HB := Lib.hid hb
  have HC := Lib.hid hc
  have HD := Lib.hid hd
  clear ha hb hc hd
  have H0 := Lib.hid h0
  clear h0
  go_enter Tryd.func132, Tryd.ntmps132
  go_wp2
  refine wp_region_plan [.val 0 [] (.agg #[.int .i64 xa, .int .i64 ya, .int .i64 xb, .int .i64 yb]), .val 1 [] (.agg #[.int .i64 xc, .int .i64 yc, .int .i64 xd, .int .i64 yd]), .val 2 [] (.bool true), .val 3 [] (.bool true), .val 4 [] undef, .val 5 [] undef, .val 6 [] undef, .val 7 [] undef, .val 8 [] undef, .val 9 [] (.bool true), .val 10 [] (.bool true), .val 11 [] undef, .val 12 [] undef, .val 13 [] undef, .val 14 [] undef, .val 15 [] undef, .val 16 [] (.bool true), .val 17 [] (.bool true)] (by kernel_rfl) (by kernel_rfl) rfl ?_
  refine plan_val (by kernel_rfl) (by kernel_rfl) (by kernel_rfl) (by go_simp) (fun w1 hw1 => ?_) ?_
  · obtain ⟨hc, hf⟩ := bcell hw1; clear hw1; go_simp; (try with_reducible rfl)
  (try simp only [Act.put, List.setIfInBounds_toArray, List.set_cons_zero, List.set_cons_succ])
  refine plan_val (by kernel_rfl) (by kernel_rfl) (by kernel_rfl) (by go_simp) (fun w1 hw1 => ?_) ?_
  · obtain ⟨hc, hf⟩ := bcell hw1; clear hw1; go_simp; (try with_reducible rfl)
  (try simp only [Act.put, List.setIfInBounds_toArray, List.set_cons_zero, List.set_cons_succ])
  refine plan_call [] 156 #[.agg #[.int .i64 xa, .int .i64 ya, .int .i64 xb, .int .i64 yb], .agg #[.int .i64 xc, .int .i64 yc, .int .i64 xd, .int .i64 yd]] (by kernel_rfl) (by kernel_rfl) (by kernel_rfl) (by kernel_rfl) (by go_simp) (fun w1 hw1 => ?_) (fun w1 hC => ?_) ?_
  · clear hw1; go_simp; (try with_reducible rfl)
  · have := crosses_any xa ya xb yb xc yc xd yd w1 HA.out HB.out HC.out HD.out; rw [H0.out] at this; exact this
  (try simp only [Act.put, List.setIfInBounds_toArray, List.set_cons_zero, List.set_cons_succ])
  refine plan_val (by kernel_rfl) (by kernel_rfl) (by kernel_rfl) (by go_simp) (fun w1 hw1 => ?_) ?_
  · obtain ⟨hc, hf⟩ := bcell hw1; clear hw1; go_simp; (try with_reducible rfl)
  (try simp only [Act.put, List.setIfInBounds_toArray, List.set_cons_zero, List.set_cons_succ])
  refine plan_skip (by kernel_rfl) (by kernel_rfl) (by kernel_rfl) (by go_simp) ?_
  (try simp only [Act.put, List.setIfInBounds_toArray, List.set_cons_zero, List.set_cons_succ])
  refine plan_skip (by kernel_rfl) (by kernel_rfl) (by kernel_rfl) (by go_simp) ?_
  (try simp only [Act.put, List.setIfInBounds_toArray, List.set_cons_zero, List.set_cons_succ])
  refine plan_skip (by kernel_rfl) (by kernel_rfl) (by kernel_rfl) (by go_simp) ?_
  (try simp only [Act.put, List.setIfInBounds_toArray, List.set_cons_zero, List.set_cons_succ])
  refine plan_skip (by kernel_rfl) (by kernel_rfl) (by kernel_rfl) (by go_simp) ?_
  (try simp only [Act.put, List.setIfInBounds_toArray, List.set_cons_zero, List.set_cons_succ])
  refine plan_skip (by kernel_rfl) (by kernel_rfl) (by kernel_rfl) (by go_simp) ?_
  (try simp only [Act.put, List.setIfInBounds_toArray, List.set_cons_zero, List.set_cons_succ])
  refine plan_val (by kernel_rfl) (by kernel_rfl) (by kernel_rfl) (by go_simp) (fun w1 hw1 => ?_) ?_
  · obtain ⟨hc, hf⟩ := bcell hw1; clear hw1; go_simp; (try with_reducible rfl)
  (try simp only [Act.put, List.setIfInBounds_toArray, List.set_cons_zero, List.set_cons_succ])
  refine plan_val (by kernel_rfl) (by kernel_rfl) (by kernel_rfl) (by go_simp) (fun w1 hw1 => ?_) ?_
  · obtain ⟨hc, hf⟩ := bcell hw1; clear hw1; go_simp; (try with_reducible rfl)
  (try simp only [Act.put, List.setIfInBounds_toArray, List.set_cons_zero, List.set_cons_succ])
  refine plan_skip (by kernel_rfl) (by kernel_rfl) (by kernel_rfl) (by go_simp) ?_
  (try simp only [Act.put, List.setIfInBounds_toArray, List.set_cons_zero, List.set_cons_succ])
  refine plan_skip (by kernel_rfl) (by kernel_rfl) (by kernel_rfl) (by go_simp) ?_
  (try simp only [Act.put, List.setIfInBounds_toArray, List.set_cons_zero, List.set_cons_succ])
  refine plan_skip (by kernel_rfl) (by kernel_rfl) (by kernel_rfl) (by go_simp) ?_
  (try simp only [Act.put, List.setIfInBounds_toArray, List.set_cons_zero, List.set_cons_succ])
  refine plan_skip (by kernel_rfl) (by kernel_rfl) (by kernel_rfl) (by go_simp) ?_
  (try simp only [Act.put, List.setIfInBounds_toArray, List.set_cons_zero, List.set_cons_succ])
  refine plan_skip (by kernel_rfl) (by kernel_rfl) (by kernel_rfl) (by go_simp) ?_
  (try simp only [Act.put, List.setIfInBounds_toArray, List.set_cons_zero, List.set_cons_succ])
  refine plan_val (by kernel_rfl) (by kernel_rfl) (by kernel_rfl) (by go_simp) (fun w1 hw1 => ?_) ?_
  · obtain ⟨hc, hf⟩ := bcell hw1; clear hw1; go_simp; (try with_reducible rfl)
  (try simp only [Act.put, List.setIfInBounds_toArray, List.set_cons_zero, List.set_cons_succ])
  refine plan_val (by kernel_rfl) (by kernel_rfl) (by kernel_rfl) (by go_simp) (fun w1 hw1 => ?_) ?_
  · obtain ⟨hc, hf⟩ := bcell hw1; clear hw1; go_simp; (try with_reducible rfl)
  (try simp only [Act.put, List.setIfInBounds_toArray, List.set_cons_zero, List.set_cons_succ])
  refine plan_done (by kernel_rfl) (fun w2 hC => ?_)
  have HB1 := Lib.hid hC.1
  clear hC
  go_wp2
  go_ret
  exact ⟨rfl, bseq (two_allocs _ _) HB1.out⟩
set_option maxHeartbeats 2000000 in
theorem touch_one (xa ya xb yb xc yc xd yd : Int) (w : World) (ha : okI xa ya = true) (hb : okI xb yb = true) (hc : okI xc yc = true) (hd : okI xd yd = true) (h0 : csB xa ya xb yb xc yc xd yd = false) (h1 : (onB xc yc xd yd xa ya || onB xc yc xd yd xb yb) = true) :
    Calls Tryd.prog 132 #[.agg #[.int .i64 xa, .int .i64 ya, .int .i64 xb, .int .i64 yb], .agg #[.int .i64 xc, .int .i64 yc, .int .i64 xd, .int .i64 yd]] w fun e w' => e = .returned (.bool true) ∧ Below w.heap.size w w' := by
  have HA := Lib.hid ha
  have HB := Lib.hid hb
  have HC := Lib.hid hc
  have HD := Lib.hid hd
  clear ha hb hc hd
  have H0 := Lib.hid h0
  have H1 := Lib.hid h1
  clear h0 h1
  go_enter Tryd.func132, Tryd.ntmps132
  go_wp2
  refine wp_region_plan [.val 0 [] (.agg #[.int .i64 xa, .int .i64 ya, .int .i64 xb, .int .i64 yb]), .val 1 [] (.agg #[.int .i64 xc, .int .i64 yc, .int .i64 xd, .int .i64 yd]), .val 2 [] (.bool false), .val 3 [] (.bool false), .val 4 [] (.agg #[.int .i64 xa, .int .i64 ya, .int .i64 xb, .int .i64 yb]), .make 5 (.cells #[.int .i64 xa, .int .i64 ya, .int .i64 xb, .int .i64 yb] 90 (0, 0)) (fun p => .slice (some ⟨p, 0, none⟩) 2 2), .val 6 [] (.agg #[.int .i64 xc, .int .i64 yc, .int .i64 xd, .int .i64 yd]), .val 7 [] (.func (.func 128) #[.agg #[.int .i64 xc, .int .i64 yc, .int .i64 xd, .int .i64 yd]] #[]), .val 8 [5] (.bool true), .val 9 [] (.bool true), .val 10 [] (.bool true), .val 11 [] undef, .val 12 [] undef, .val 13 [] undef, .val 14 [] undef, .val 15 [] undef, .val 16 [] (.bool true), .val 17 [] (.bool true)] (by kernel_rfl) (by kernel_rfl) rfl ?_
  refine plan_val (by kernel_rfl) (by kernel_rfl) (by kernel_rfl) (by go_simp) (fun w1 hw1 => ?_) ?_
  · obtain ⟨hc, hf⟩ := bcell hw1; clear hw1; go_simp; (try with_reducible rfl)
  (try simp only [Act.put, List.setIfInBounds_toArray, List.set_cons_zero, List.set_cons_succ])
  refine plan_val (by kernel_rfl) (by kernel_rfl) (by kernel_rfl) (by go_simp) (fun w1 hw1 => ?_) ?_
  · obtain ⟨hc, hf⟩ := bcell hw1; clear hw1; go_simp; (try with_reducible rfl)
  (try simp only [Act.put, List.setIfInBounds_toArray, List.set_cons_zero, List.set_cons_succ])
  refine plan_call [] 156 #[.agg #[.int .i64 xa, .int .i64 ya, .int .i64 xb, .int .i64 yb], .agg #[.int .i64 xc, .int .i64 yc, .int .i64 xd, .int .i64 yd]] (by kernel_rfl) (by kernel_rfl) (by kernel_rfl) (by kernel_rfl) (by go_simp) (fun w1 hw1 => ?_) (fun w1 hC => ?_) ?_
  · clear hw1; go_simp; (try with_reducible rfl)
  · have := crosses_any xa ya xb yb xc yc xd yd w1 HA.out HB.out HC.out HD.out; rw [H0.out] at this; exact this
  (try simp only [Act.put, List.setIfInBounds_toArray, List.set_cons_zero, List.set_cons_succ])
  refine plan_val (by kernel_rfl) (by kernel_rfl) (by kernel_rfl) (by go_simp) (fun w1 hw1 => ?_) ?_
  · obtain ⟨hc, hf⟩ := bcell hw1; clear hw1; go_simp; (try with_reducible rfl)
  (try simp only [Act.put, List.setIfInBounds_toArray, List.set_cons_zero, List.set_cons_succ])
  refine plan_val (by kernel_rfl) (by kernel_rfl) (by kernel_rfl) (by go_simp) (fun w1 hw1 => ?_) ?_
  · obtain ⟨hc, hf⟩ := bcell hw1; clear hw1; go_simp; (try with_reducible rfl)
  (try simp only [Act.put, List.setIfInBounds_toArray, List.set_cons_zero, List.set_cons_succ])
  refine plan_mcall 158 #[.agg #[.int .i64 xa, .int .i64 ya, .int .i64 xb, .int .i64 yb]] (by kernel_rfl) (by kernel_rfl) (by go_simp) (fun w1 hw1 => ?_) (fun w1 hw1 => ?_) (fun p5 hp5 => ?_)
  · clear hw1; go_simp; (try with_reducible rfl)
  · exact ends_any _ _ _ _ _
  (try simp only [Act.put, List.setIfInBounds_toArray, List.set_cons_zero, List.set_cons_succ])
  refine plan_val (by kernel_rfl) (by kernel_rfl) (by kernel_rfl) (by go_simp) (fun w1 hw1 => ?_) ?_
  · obtain ⟨hc, hf⟩ := bcell hw1; clear hw1; go_simp; (try with_reducible rfl)
  (try simp only [Act.put, List.setIfInBounds_toArray, List.set_cons_zero, List.set_cons_succ])
  refine plan_val (by kernel_rfl) (by kernel_rfl) (by kernel_rfl) (by go_simp) (fun w1 hw1 => ?_) ?_
  · obtain ⟨hc, hf⟩ := bcell hw1; clear hw1; go_simp; (try with_reducible rfl)
  (try simp only [Act.put, List.setIfInBounds_toArray, List.set_cons_zero, List.set_cons_succ])
  refine plan_call [5] 157 #[.slice (some ⟨p5, 0, none⟩) 2 2, .func (.func 128) #[.agg #[.int .i64 xc, .int .i64 yc, .int .i64 xd, .int .i64 yd]] #[]] (by kernel_rfl) (by kernel_rfl) (by kernel_rfl) (by kernel_rfl) (by go_simp) (fun w1 hw1 => ?_) (fun w1 hC => ?_) ?_
  · clear hw1; go_simp; (try with_reducible rfl)
  · obtain ⟨z1, z2, z3⟩ := hC.2 ⟨5, p5, _⟩ ⟨Or.inl rfl, rfl⟩
    obtain ⟨c0, f0, c1, f1, c2, f2, c3, f3⟩ := cells4_of z3
    have := has_any xa ya xb yb xc yc xd yd p5 w1 HA.out HB.out HC.out HD.out z2 c0 c1 c2 c3
    rw [H1.out] at this; exact this
  (try simp only [Act.put, List.setIfInBounds_toArray, List.set_cons_zero, List.set_cons_succ])
  refine plan_val (by kernel_rfl) (by kernel_rfl) (by kernel_rfl) (by go_simp) (fun w1 hw1 => ?_) ?_
  · obtain ⟨hc, hf⟩ := bcell hw1; clear hw1; go_simp; (try with_reducible rfl)
  (try simp only [Act.put, List.setIfInBounds_toArray, List.set_cons_zero, List.set_cons_succ])
  refine plan_val (by kernel_rfl) (by kernel_rfl) (by kernel_rfl) (by go_simp) (fun w1 hw1 => ?_) ?_
  · obtain ⟨hc, hf⟩ := bcell hw1; clear hw1; go_simp; (try with_reducible rfl)
  (try simp only [Act.put, List.setIfInBounds_toArray, List.set_cons_zero, List.set_cons_succ])
  refine plan_skip (by kernel_rfl) (by kernel_rfl) (by kernel_rfl) (by go_simp) ?_
  (try simp only [Act.put, List.setIfInBounds_toArray, List.set_cons_zero, List.set_cons_succ])
  refine plan_skip (by kernel_rfl) (by kernel_rfl) (by kernel_rfl) (by go_simp) ?_
  (try simp only [Act.put, List.setIfInBounds_toArray, List.set_cons_zero, List.set_cons_succ])
  refine plan_skip (by kernel_rfl) (by kernel_rfl) (by kernel_rfl) (by go_simp) ?_
  (try simp only [Act.put, List.setIfInBounds_toArray, List.set_cons_zero, List.set_cons_succ])
  refine plan_skip (by kernel_rfl) (by kernel_rfl) (by kernel_rfl) (by go_simp) ?_
  (try simp only [Act.put, List.setIfInBounds_toArray, List.set_cons_zero, List.set_cons_succ])
  refine plan_skip (by kernel_rfl) (by kernel_rfl) (by kernel_rfl) (by go_simp) ?_
  (try simp only [Act.put, List.setIfInBounds_toArray, List.set_cons_zero, List.set_cons_succ])
  refine plan_val (by kernel_rfl) (by kernel_rfl) (by kernel_rfl) (by go_simp) (fun w1 hw1 => ?_) ?_
  · obtain ⟨hc, hf⟩ := bcell hw1; clear hw1; go_simp; (try with_reducible rfl)
  (try simp only [Act.put, List.setIfInBounds_toArray, List.set_cons_zero, List.set_cons_succ])
  refine plan_val (by kernel_rfl) (by kernel_rfl) (by kernel_rfl) (by go_simp) (fun w1 hw1 => ?_) ?_
  · obtain ⟨hc, hf⟩ := bcell hw1; clear hw1; go_simp; (try with_reducible rfl)
  (try simp only [Act.put, List.setIfInBounds_toArray, List.set_cons_zero, List.set_cons_succ])
  refine plan_done (by kernel_rfl) (fun w2 hC => ?_)
  have HB1 := Lib.hid hC.1
  clear hC
  go_wp2
  go_ret
  exact ⟨rfl, bseq (two_allocs _ _) HB1.out⟩
set_option maxHeartbeats 2000000 in
theorem touch_two (xa ya xb yb xc yc xd yd : Int) (w : World) (ha : okI xa ya = true) (hb : okI xb yb = true) (hc : okI xc yc = true) (hd : okI xd yd = true) (h0 : csB xa ya xb yb xc yc xd yd = false) (h1 : (onB xc yc xd yd xa ya || onB xc yc xd yd xb yb) = false) (h2 : (onB xa ya xb yb xc yc || onB xa ya xb yb xd yd) = true) :
    Calls Tryd.prog 132 #[.agg #[.int .i64 xa, .int .i64 ya, .int .i64 xb, .int .i64 yb], .agg #[.int .i64 xc, .int .i64 yc, .int .i64 xd, .int .i64 yd]] w fun e w' => e = .returned (.bool true) ∧ Below w.heap.size w w' := by
  have HA := Lib.hid ha
  have HB := Lib.hid hb
  have HC := Lib.hid hc
  have HD := Lib.hid hd
  clear ha hb hc hd
  have H0 := Lib.hid h0
  have H1 := Lib.hid h1
  have H2 := Lib.hid h2
  clear h0 h1 h2
  go_enter Tryd.func132, Tryd.ntmps132
  go_wp2
  refine wp_region_plan [.val 0 [] (.agg #[.int .i64 xa, .int .i64 ya, .int .i64 xb, .int .i64 yb]), .val 1 [] (.agg #[.int .i64 xc, .int .i64 yc, .int .i64 xd, .int .i64 yd]), .val 2 [] (.bool false), .val 3 [] (.bool false), .val 4 [] (.agg #[.int .i64 xa, .int .i64 ya, .int .i64 xb, .int .i64 yb]), .make 5 (.cells #[.int .i64 xa, .int .i64 ya, .int .i64 xb, .int .i64 yb] 90 (0, 0)) (fun p => .slice (some ⟨p, 0, none⟩) 2 2), .val 6 [] (.agg #[.int .i64 xc, .int .i64 yc, .int .i64 xd, .int .i64 yd]), .val 7 [] (.func (.func 128) #[.agg #[.int .i64 xc, .int .i64 yc, .int .i64 xd, .int .i64 yd]] #[]), .val 8 [5] (.bool false), .val 9 [] (.bool false), .val 10 [] (.bool false), .val 11 [] (.agg #[.int .i64 xc, .int .i64 yc, .int .i64 xd, .int .i64 yd]), .make 12 (.cells #[.int .i64 xc, .int .i64 yc, .int .i64 xd, .int .i64 yd] 90 (0, 0)) (fun p => .slice (some ⟨p, 0, none⟩) 2 2), .val 13 [] (.agg #[.int .i64 xa, .int .i64 ya, .int .i64 xb, .int .i64 yb]), .val 14 [] (.func (.func 128) #[.agg #[.int .i64 xa, .int .i64 ya, .int .i64 xb, .int .i64 yb]] #[]), .val 15 [12] (.bool true), .val 16 [] (.bool true), .val 17 [] (.bool true)] (by kernel_rfl) (by kernel_rfl) rfl ?_
  refine plan_val (by kernel_rfl) (by kernel_rfl) (by kernel_rfl) (by go_simp) (fun w1 hw1 => ?_) ?_
  · obtain ⟨hc, hf⟩ := bcell hw1; clear hw1; go_simp; (try with_reducible rfl)
  (try simp only [Act.put, List.setIfInBounds_toArray, List.set_cons_zero, List.set_cons_succ])
  refine plan_val (by kernel_rfl) (by kernel_rfl) (by kernel_rfl) (by go_simp) (fun w1 hw1 => ?_) ?_
  · obtain ⟨hc, hf⟩ := bcell hw1; clear hw1; go_simp; (try with_reducible rfl)
  (try simp only [Act.put, List.setIfInBounds_toArray, List.set_cons_zero, List.set_cons_succ])
  refine plan_call [] 156 #[.agg #[.int .i64 xa, .int .i64 ya, .int .i64 xb, .int .i64 yb], .agg #[.int .i64 xc, .int .i64 yc, .int .i64 xd, .int .i64 yd]] (by kernel_rfl) (by kernel_rfl) (by kernel_rfl) (by kernel_rfl) (by go_simp) (fun w1 hw1 => ?_) (fun w1 hC => ?_) ?_
  · clear hw1; go_simp; (try with_reducible rfl)
  · have := crosses_any xa ya xb yb xc yc xd yd w1 HA.out HB.out HC.out HD.out; rw [H0.out] at this; exact this
  (try simp only [Act.put, List.setIfInBounds_toArray, List.set_cons_zero, List.set_cons_succ])
  refine plan_val (by kernel_rfl) (by kernel_rfl) (by kernel_rfl) (by go_simp) (fun w1 hw1 => ?_) ?_
  · obtain ⟨hc, hf⟩ := bcell hw1; clear hw1; go_simp; (try with_reducible rfl)
  (try simp only [Act.put, List.setIfInBounds_toArray, List.set_cons_zero, List.set_cons_succ])
  refine plan_val (by kernel_rfl) (by kernel_rfl) (by kernel_rfl) (by go_simp) (fun w1 hw1 => ?_) ?_
  · obtain ⟨hc, hf⟩ := bcell hw1; clear hw1; go_simp; (try with_reducible rfl)
  (try simp only [Act.put, List.setIfInBounds_toArray, List.set_cons_zero, List.set_cons_succ])
  refine plan_mcall 158 #[.agg #[.int .i64 xa, .int .i64 ya, .int .i64 xb, .int .i64 yb]] (by kernel_rfl) (by kernel_rfl) (by go_simp) (fun w1 hw1 => ?_) (fun w1 hw1 => ?_) (fun p5 hp5 => ?_)
  · clear hw1; go_simp; (try with_reducible rfl)
  · exact ends_any _ _ _ _ _
  (try simp only [Act.put, List.setIfInBounds_toArray, List.set_cons_zero, List.set_cons_succ])
  refine plan_val (by kernel_rfl) (by kernel_rfl) (by kernel_rfl) (by go_simp) (fun w1 hw1 => ?_) ?_
  · obtain ⟨hc, hf⟩ := bcell hw1; clear hw1; go_simp; (try with_reducible rfl)
  (try simp only [Act.put, List.setIfInBounds_toArray, List.set_cons_zero, List.set_cons_succ])
  refine plan_val (by kernel_rfl) (by kernel_rfl) (by kernel_rfl) (by go_simp) (fun w1 hw1 => ?_) ?_
  · obtain ⟨hc, hf⟩ := bcell hw1; clear hw1; go_simp; (try with_reducible rfl)
  (try simp only [Act.put, List.setIfInBounds_toArray, List.set_cons_zero, List.set_cons_succ])
  refine plan_call [5] 157 #[.slice (some ⟨p5, 0, none⟩) 2 2, .func (.func 128) #[.agg #[.int .i64 xc, .int .i64 yc, .int .i64 xd, .int .i64 yd]] #[]] (by kernel_rfl) (by kernel_rfl) (by kernel_rfl) (by kernel_rfl) (by go_simp) (fun w1 hw1 => ?_) (fun w1 hC => ?_) ?_
  · clear hw1; go_simp; (try with_reducible rfl)
  · obtain ⟨z1, z2, z3⟩ := hC.2 ⟨5, p5, _⟩ ⟨Or.inl rfl, rfl⟩
    obtain ⟨c0, f0, c1, f1, c2, f2, c3, f3⟩ := cells4_of z3
    have := has_any xa ya xb yb xc yc xd yd p5 w1 HA.out HB.out HC.out HD.out z2 c0 c1 c2 c3
    rw [H1.out] at this; exact this
  (try simp only [Act.put, List.setIfInBounds_toArray, List.set_cons_zero, List.set_cons_succ])
  refine plan_val (by kernel_rfl) (by kernel_rfl) (by kernel_rfl) (by go_simp) (fun w1 hw1 => ?_) ?_
  · obtain ⟨hc, hf⟩ := bcell hw1; clear hw1; go_simp; (try with_reducible rfl)
  (try simp only [Act.put, List.setIfInBounds_toArray, List.set_cons_zero, List.set_cons_succ])
  refine plan_val (by kernel_rfl) (by kernel_rfl) (by kernel_rfl) (by go_simp) (fun w1 hw1 => ?_) ?_
  · obtain ⟨hc, hf⟩ := bcell hw1; clear hw1; go_simp; (try with_reducible rfl)
  (try simp only [Act.put, List.setIfInBounds_toArray, List.set_cons_zero, List.set_cons_succ])
  refine plan_val (by kernel_rfl) (by kernel_rfl) (by kernel_rfl) (by go_simp) (fun w1 hw1 => ?_) ?_
  · obtain ⟨hc, hf⟩ := bcell hw1; clear hw1; go_simp; (try with_reducible rfl)
  (try simp only [Act.put, List.setIfInBounds_toArray, List.set_cons_zero, List.set_cons_succ])
  refine plan_mcall 158 #[.agg #[.int .i64 xc, .int .i64 yc, .int .i64 xd, .int .i64 yd]] (by kernel_rfl) (by kernel_rfl) (by go_simp) (fun w1 hw1 => ?_) (fun w1 hw1 => ?_) (fun p12 hp12 => ?_)
  · clear hw1; go_simp; (try with_reducible rfl)
  · exact ends_any _ _ _ _ _
  (try simp only [Act.put, List.setIfInBounds_toArray, List.set_cons_zero, List.set_cons_succ])
  refine plan_val (by kernel_rfl) (by kernel_rfl) (by kernel_rfl) (by go_simp) (fun w1 hw1 => ?_) ?_
  · obtain ⟨hc, hf⟩ := bcell hw1; clear hw1; go_simp; (try with_reducible rfl)
  (try simp only [Act.put, List.setIfInBounds_toArray, List.set_cons_zero, List.set_cons_succ])
  refine plan_val (by kernel_rfl) (by kernel_rfl) (by kernel_rfl) (by go_simp) (fun w1 hw1 => ?_) ?_
  · obtain ⟨hc, hf⟩ := bcell hw1; clear hw1; go_simp; (try with_reducible rfl)
  (try simp only [Act.put, List.setIfInBounds_toArray, List.set_cons_zero, List.set_cons_succ])
  refine plan_call [12] 157 #[.slice (some ⟨p12, 0, none⟩) 2 2, .func (.func 128) #[.agg #[.int .i64 xa, .int .i64 ya, .int .i64 xb, .int .i64 yb]] #[]] (by kernel_rfl) (by kernel_rfl) (by kernel_rfl) (by kernel_rfl) (by go_simp) (fun w1 hw1 => ?_) (fun w1 hC => ?_) ?_
  · clear hw1; go_simp; (try with_reducible rfl)
  · obtain ⟨z1, z2, z3⟩ := hC.2 ⟨12, p12, _⟩ ⟨Or.inl rfl, rfl⟩
    obtain ⟨c0, f0, c1, f1, c2, f2, c3, f3⟩ := cells4_of z3
    have := has_any xc yc xd yd xa ya xb yb p12 w1 HC.out HD.out HA.out HB.out z2 c0 c1 c2 c3
    rw [H2.out] at this; exact this
  (try simp only [Act.put, List.setIfInBounds_toArray, List.set_cons_zero, List.set_cons_succ])
  refine plan_val (by kernel_rfl) (by kernel_rfl) (by kernel_rfl) (by go_simp) (fun w1 hw1 => ?_) ?_
  · obtain ⟨hc, hf⟩ := bcell hw1; clear hw1; go_simp; (try with_reducible rfl)
  (try simp only [Act.put, List.setIfInBounds_toArray, List.set_cons_zero, List.set_cons_succ])
  refine plan_val (by kernel_rfl) (by kernel_rfl) (by kernel_rfl) (by go_simp) (fun w1 hw1 => ?_) ?_
  · obtain ⟨hc, hf⟩ := bcell hw1; clear hw1; go_simp; (try with_reducible rfl)
  (try simp only [Act.put, List.setIfInBounds_toArray, List.set_cons_zero, List.set_cons_succ])
  refine plan_done (by kernel_rfl) (fun w2 hC => ?_)
  have HB1 := Lib.hid hC.1
  clear hC
  go_wp2
  go_ret
  exact ⟨rfl, bseq (two_allocs _ _) HB1.out⟩
set_option maxHeartbeats 2000000 in
theorem touch_none (xa ya xb yb xc yc xd yd : Int) (w : World) (ha : okI xa ya = true) (hb : okI xb yb = true) (hc : okI xc yc = true) (hd : okI xd yd = true) (h0 : csB xa ya xb yb xc yc xd yd = false) (h1 : (onB xc yc xd yd xa ya || onB xc yc xd yd xb yb) = false) (h2 : (onB xa ya xb yb xc yc || onB xa ya xb yb xd yd) = false) :
    Calls Tryd.prog 132 #[.agg #[.int .i64 xa, .int .i64 ya, .int .i64 xb, .int .i64 yb], .agg #[.int .i64 xc, .int .i64 yc, .int .i64 xd, .int .i64 yd]] w fun e w' => e = .returned (.bool false) ∧ Below w.heap.size w w' := by
  have HA := Lib.hid ha
  have HB := Lib.hid hb
  have HC := Lib.hid hc
  have HD := Lib.hid hd
  clear ha hb hc hd
  have H0 := Lib.hid h0
  have H1 := Lib.hid h1
  have H2 := Lib.hid h2
  clear h0 h1 h2
  go_enter Tryd.func132, Tryd.ntmps132
  go_wp2
  refine wp_region_plan [.val 0 [] (.agg #[.int .i64 xa, .int .i64 ya, .int .i64 xb, .int .i64 yb]), .val 1 [] (.agg #[.int .i64 xc, .int .i64 yc, .int .i64 xd, .int .i64 yd]), .val 2 [] (.bool false), .val 3 [] (.bool false), .val 4 [] (.agg #[.int .i64 xa, .int .i64 ya, .int .i64 xb, .int .i64 yb]), .make 5 (.cells #[.int .i64 xa, .int .i64 ya, .int .i64 xb, .int .i64 yb] 90 (0, 0)) (fun p => .slice (some ⟨p, 0, none⟩) 2 2), .val 6 [] (.agg #[.int .i64 xc, .int .i64 yc, .int .i64 xd, .int .i64 yd]), .val 7 [] (.func (.func 128) #[.agg #[.int .i64 xc, .int .i64 yc, .int .i64 xd, .int .i64 yd]] #[]), .val 8 [5] (.bool false), .val 9 [] (.bool false), .val 10 [] (.bool false), .val 11 [] (.agg #[.int .i64 xc, .int .i64 yc, .int .i64 xd, .int .i64 yd]), .make 12 (.cells #[.int .i64 xc, .int .i64 yc, .int .i64 xd, .int .i64 yd] 90 (0, 0)) (fun p => .slice (some ⟨p, 0, none⟩) 2 2), .val 13 [] (.agg #[.int .i64 xa, .int .i64 ya, .int .i64 xb, .int .i64 yb]), .val 14 [] (.func (.func 128) #[.agg #[.int .i64 xa, .int .i64 ya, .int .i64 xb, .int .i64 yb]] #[]), .val 15 [12] (.bool false), .val 16 [] (.bool false), .val 17 [] (.bool false)] (by kernel_rfl) (by kernel_rfl) rfl ?_
  refine plan_val (by kernel_rfl) (by kernel_rfl) (by kernel_rfl) (by go_simp) (fun w1 hw1 => ?_) ?_
  · obtain ⟨hc, hf⟩ := bcell hw1; clear hw1; go_simp; (try with_reducible rfl)
  (try simp only [Act.put, List.setIfInBounds_toArray, List.set_cons_zero, List.set_cons_succ])
  refine plan_val (by kernel_rfl) (by kernel_rfl) (by kernel_rfl) (by go_simp) (fun w1 hw1 => ?_) ?_
  · obtain ⟨hc, hf⟩ := bcell hw1; clear hw1; go_simp; (try with_reducible rfl)
  (try simp only [Act.put, List.setIfInBounds_toArray, List.set_cons_zero, List.set_cons_succ])
  refine plan_call [] 156 #[.agg #[.int .i64 xa, .int .i64 ya, .int .i64 xb, .int .i64 yb], .agg #[.int .i64 xc, .int .i64 yc, .int .i64 xd, .int .i64 yd]] (by kernel_rfl) (by kernel_rfl) (by kernel_rfl) (by kernel_rfl) (by go_simp) (fun w1 hw1 => ?_) (fun w1 hC => ?_) ?_
  · clear hw1; go_simp; (try with_reducible rfl)
  · have := crosses_any xa ya xb yb xc yc xd yd w1 HA.out HB.out HC.out HD.out; rw [H0.out] at this; exact this
  (try simp only [Act.put, List.setIfInBounds_toArray, List.set_cons_zero, List.set_cons_succ])
  refine plan_val (by kernel_rfl) (by kernel_rfl) (by kernel_rfl) (by go_simp) (fun w1 hw1 => ?_) ?_
  · obtain ⟨hc, hf⟩ := bcell hw1; clear hw1; go_simp; (try with_reducible rfl)
  (try simp only [Act.put, List.setIfInBounds_toArray, List.set_cons_zero, List.set_cons_succ])
  refine plan_val (by kernel_rfl) (by kernel_rfl) (by kernel_rfl) (by go_simp) (fun w1 hw1 => ?_) ?_
  · obtain ⟨hc, hf⟩ := bcell hw1; clear hw1; go_simp; (try with_reducible rfl)
  (try simp only [Act.put, List.setIfInBounds_toArray, List.set_cons_zero, List.set_cons_succ])
  refine plan_mcall 158 #[.agg #[.int .i64 xa, .int .i64 ya, .int .i64 xb, .int .i64 yb]] (by kernel_rfl) (by kernel_rfl) (by go_simp) (fun w1 hw1 => ?_) (fun w1 hw1 => ?_) (fun p5 hp5 => ?_)
  · clear hw1; go_simp; (try with_reducible rfl)
  · exact ends_any _ _ _ _ _
  (try simp only [Act.put, List.setIfInBounds_toArray, List.set_cons_zero, List.set_cons_succ])
  refine plan_val (by kernel_rfl) (by kernel_rfl) (by kernel_rfl) (by go_simp) (fun w1 hw1 => ?_) ?_
  · obtain ⟨hc, hf⟩ := bcell hw1; clear hw1; go_simp; (try with_reducible rfl)
  (try simp only [Act.put, List.setIfInBounds_toArray, List.set_cons_zero, List.set_cons_succ])
  refine plan_val (by kernel_rfl) (by kernel_rfl) (by kernel_rfl) (by go_simp) (fun w1 hw1 => ?_) ?_
  · obtain ⟨hc, hf⟩ := bcell hw1; clear hw1; go_simp; (try with_reducible rfl)
  (try simp only [Act.put, List.setIfInBounds_toArray, List.set_cons_zero, List.set_cons_succ])
  refine plan_call [5] 157 #[.slice (some ⟨p5, 0, none⟩) 2 2, .func (.func 128) #[.agg #[.int .i64 xc, .int .i64 yc, .int .i64 xd, .int .i64 yd]] #[]] (by kernel_rfl) (by kernel_rfl) (by kernel_rfl) (by kernel_rfl) (by go_simp) (fun w1 hw1 => ?_) (fun w1 hC => ?_) ?_
  · clear hw1; go_simp; (try with_reducible rfl)
  · obtain ⟨z1, z2, z3⟩ := hC.2 ⟨5, p5, _⟩ ⟨Or.inl rfl, rfl⟩
    obtain ⟨c0, f0, c1, f1, c2, f2, c3, f3⟩ := cells4_of z3
    have := has_any xa ya xb yb xc yc xd yd p5 w1 HA.out HB.out HC.out HD.out z2 c0 c1 c2 c3
    rw [H1.out] at this; exact this
  (try simp only [Act.put, List.setIfInBounds_toArray, List.set_cons_zero, List.set_cons_succ])
  refine plan_val (by kernel_rfl) (by kernel_rfl) (by kernel_rfl) (by go_simp) (fun w1 hw1 => ?_) ?_
  · obtain ⟨hc, hf⟩ := bcell hw1; clear hw1; go_simp; (try with_reducible rfl)
  (try simp only [Act.put, List.setIfInBounds_toArray, List.set_cons_zero, List.set_cons_succ])
  refine plan_val (by kernel_rfl) (by kernel_rfl) (by kernel_rfl) (by go_simp) (fun w1 hw1 => ?_) ?_
  · obtain ⟨hc, hf⟩ := bcell hw1; clear hw1; go_simp; (try with_reducible rfl)
  (try simp only [Act.put, List.setIfInBounds_toArray, List.set_cons_zero, List.set_cons_succ])
  refine plan_val (by kernel_rfl) (by kernel_rfl) (by kernel_rfl) (by go_simp) (fun w1 hw1 => ?_) ?_
  · obtain ⟨hc, hf⟩ := bcell hw1; clear hw1; go_simp; (try with_reducible rfl)
  (try simp only [Act.put, List.setIfInBounds_toArray, List.set_cons_zero, List.set_cons_succ])
  refine plan_mcall 158 #[.agg #[.int .i64 xc, .int .i64 yc, .int .i64 xd, .int .i64 yd]] (by kernel_rfl) (by kernel_rfl) (by go_simp) (fun w1 hw1 => ?_) (fun w1 hw1 => ?_) (fun p12 hp12 => ?_)
  · clear hw1; go_simp; (try with_reducible rfl)
  · exact ends_any _ _ _ _ _
  (try simp only [Act.put, List.setIfInBounds_toArray, List.set_cons_zero, List.set_cons_succ])
  refine plan_val (by kernel_rfl) (by kernel_rfl) (by kernel_rfl) (by go_simp) (fun w1 hw1 => ?_) ?_
  · obtain ⟨hc, hf⟩ := bcell hw1; clear hw1; go_simp; (try with_reducible rfl)
  (try simp only [Act.put, List.setIfInBounds_toArray, List.set_cons_zero, List.set_cons_succ])
  refine plan_val (by kernel_rfl) (by kernel_rfl) (by kernel_rfl) (by go_simp) (fun w1 hw1 => ?_) ?_
  · obtain ⟨hc, hf⟩ := bcell hw1; clear hw1; go_simp; (try with_reducible rfl)
  (try simp only [Act.put, List.setIfInBounds_toArray, List.set_cons_zero, List.set_cons_succ])
  refine plan_call [12] 157 #[.slice (some ⟨p12, 0, none⟩) 2 2, .func (.func 128) #[.agg #[.int .i64 xa, .int .i64 ya, .int .i64 xb, .int .i64 yb]] #[]] (by kernel_rfl) (by kernel_rfl) (by kernel_rfl) (by kernel_rfl) (by go_simp) (fun w1 hw1 => ?_) (fun w1 hC => ?_) ?_
  · clear hw1; go_simp; (try with_reducible rfl)
  · obtain ⟨z1, z2, z3⟩ := hC.2 ⟨12, p12, _⟩ ⟨Or.inl rfl, rfl⟩
    obtain ⟨c0, f0, c1, f1, c2, f2, c3, f3⟩ := cells4_of z3
    have := has_any xc yc xd yd xa ya xb yb p12 w1 HC.out HD.out HA.out HB.out z2 c0 c1 c2 c3
    rw [H2.out] at this; exact this
  (try simp only [Act.put, List.setIfInBounds_toArray, List.set_cons_zero, List.set_cons_succ])
  refine plan_val (by kernel_rfl) (by kernel_rfl) (by kernel_rfl) (by go_simp) (fun w1 hw1 => ?_) ?_
  · obtain ⟨hc, hf⟩ := bcell hw1; clear hw1; go_simp; (try with_reducible rfl)
  (try simp only [Act.put, List.setIfInBounds_toArray, List.set_cons_zero, List.set_cons_succ])
  refine plan_val (by kernel_rfl) (by kernel_rfl) (by kernel_rfl) (by go_simp) (fun w1 hw1 => ?_) ?_
  · obtain ⟨hc, hf⟩ := bcell hw1; clear hw1; go_simp; (try with_reducible rfl)
  (try simp only [Act.put, List.setIfInBounds_toArray, List.set_cons_zero, List.set_cons_succ])
  refine plan_done (by kernel_rfl) (fun w2 hC => ?_)
  have HB1 := Lib.hid hC.1
  clear hC
  go_wp2
  go_ret
  exact ⟨rfl, bseq (two_allocs _ _) HB1.out⟩
theorem touches_any (xa ya xb yb xc yc xd yd : Int) (w : World) (ha : okI xa ya = true) (hb : okI xb yb = true) (hc : okI xc yc = true) (hd : okI xd yd = true) :
    Calls Tryd.prog 132 #[.agg #[.int .i64 xa, .int .i64 ya, .int .i64 xb, .int .i64 yb], .agg #[.int .i64 xc, .int .i64 yc, .int .i64 xd, .int .i64 yd]] w fun e w' => e = .returned (.bool (tcB xa ya xb yb xc yc xd yd)) ∧ Below w.heap.size w w' := by
  cases h0 : csB xa ya xb yb xc yc xd yd
  rotate_left
  · rw [show tcB xa ya xb yb xc yc xd yd = true by unfold tcB; rw [h0]; rfl]
    exact touch_cross _ _ _ _ _ _ _ _ w ha hb hc hd h0
  have hs : tcB xa ya xb yb xc yc xd yd = ((onB xc yc xd yd xa ya || onB xc yc xd yd xb yb) || (onB xa ya xb yb xc yc || onB xa ya xb yb xd yd)) := by
    unfold tcB; rw [h0]
    cases onB xa ya xb yb xc yc <;> cases onB xa ya xb yb xd yd <;> cases onB xc yc xd yd xa ya <;> cases onB xc yc xd yd xb yb <;> rfl
  rw [hs]; clear hs
  cases h1 : (onB xc yc xd yd xa ya || onB xc yc xd yd xb yb)
  rotate_left
  · exact touch_one _ _ _ _ _ _ _ _ w ha hb hc hd h0 h1
  cases h2 : (onB xa ya xb yb xc yc || onB xa ya xb yb xd yd)
  · exact touch_none _ _ _ _ _ _ _ _ w ha hb hc hd h0 h1 h2
  · exact touch_two _ _ _ _ _ _ _ _ w ha hb hc hd h0 h1 h2
end Go.Proofs.YtmfchcaidfloaaaDoor
