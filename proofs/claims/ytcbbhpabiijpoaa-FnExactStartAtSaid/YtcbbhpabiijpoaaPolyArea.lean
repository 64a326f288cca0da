/- The area of a polygon, of impl. -/
import Derived.Test.YtcbbhpabiijpoaaEdges
namespace Go.Proofs.Ytcbbhpabiijpoaa
attribute [local go_sem] Oper.semAt_some
open Go.Shelf Go.ChangeShapes Go.WideShapes Go.ChangeAt Go.RowKit
set_option linter.unusedVariables false

theorem own_boxed {β : Type} {B B0 : Nat} {t : TypeId} {f : β → Value} (h : B < B0) : OwnFrom B0 (fun (s : β) W => Boxed W B t (f s)) := fun s X Y row hs hg hr =>
  hs.kept hg (fun e => by obtain ⟨h1, _⟩ := hr B e.symm; omega)
theorem own_cells {B : Nat} {E : Nat} {o : Obj} (ho : o.isCells = true) : OwnFrom B (fun (_ : Unit) W => W.heap[E]? = some o) := fun s X Y row hs hg hr => by
  have hE : E < X.heap.size := (Array.getElem?_eq_some_iff.1 hs).1
  refine (hg.block E hE (fun e => ?_)).trans hs
  obtain ⟨_, o', h1, h2⟩ := hr E e.symm
  rw [hs] at h1
  obtain rfl := Option.some.inj h1
  rw [ho] at h2; cases h2
theorem belowK_put {B D : Nat} {X Y : World} {o o' : Obj} (h : Below B X Y) (hD : B ≤ D) (hd : Y.heap[D]? = some o) : Below B X (Y.putObj D o') :=
  ⟨h.os, h.tape, h.output, by simp [World.putObj]; exact h.size, fun k hk => (World.putObj_heap_other (by omega)).trans (h.block k hk)⟩
def seg4 (zs : List P2) (k : Nat) : Obj := .cells #[.int .i64 (pt zs k).1, .int .i64 (pt zs k).2, .int .i64 (pt zs (k + 1)).1, .int .i64 (pt zs (k + 1)).2] 68 (0, 0)
/-- The sum over the rounds that have been. -/
def sumOf (f : Nat → Int) (pre : List Nat) : Int := (pre.map f).sum
theorem sumOf_range (f : Nat → Int) (n : Nat) : sumOf f (List.range n) = sumTo f n := by
  induction n with
  | zero => rfl
  | succ n ih => rw [range_snoc, sumOf, List.map_append, List.sum_append, sumTo, ← ih]; simp [sumOf]
theorem sumOf_snoc (f : Nat → Int) (pre : List Nat) (x : Nat) : sumOf f (pre ++ [x]) = sumOf f pre + f x := by simp [sumOf]
theorem sumOf_bd (f : Nat → Int) (M : Int) (h : ∀ k, -M ≤ f k ∧ f k ≤ M) (pre : List Nat) : -(pre.length * M) ≤ sumOf f pre ∧ sumOf f pre ≤ pre.length * M := by
  induction pre with
  | nil => simp [sumOf]
  | cons a l ih =>
    have h2 := h a
    have e : ((l.length + 1 : Nat) : Int) * M = l.length * M + M := by rw [Int.natCast_add, Int.add_mul]; simp
    have e2 : sumOf f (a :: l) = f a + sumOf f l := by simp [sumOf]
    simp only [List.length_cons]
    rw [e2]
    omega
def crF (zs : List P2) (k : Nat) : Int := crP (pt zs k) (pt zs (k + 1))
/-- Between two rounds of the sum: the variable holds it, and nothing that was there has changed. -/
def SumAt (f : Nat → Int) (w : World) (S : Nat) (t : TypeId) (pre : List Nat) (W : World) : Prop := Below w.heap.size w W ∧ Boxed W S t (.int .i64 (sumOf f pre))
theorem sumAt_own (f : Nat → Int) {w : World} {S B : Nat} {t : TypeId} (hB : w.heap.size ≤ B) (hS : S < B) : OwnFrom B (SumAt f w S t) := fun s X Y row hs hg hr =>
  ⟨ownFrom_below (β := Unit) (Nat.le_refl _) hB () X Y row hs.1 hg hr, own_boxed (β := List Nat) (f := fun pre => .int .i64 (sumOf f pre)) hS s X Y row hs.2 hg hr⟩
set_option maxRecDepth 100000 in
set_option maxHeartbeats 4000000 in
theorem area_impl (b len cap : Nat) (zs : List P2) (w : World) (hz : len = zs.length) (h1 : 1 ≤ len) (hl : len ≤ 24) (hv : allOk zs = true) (hp : PtsAt w b zs) :
    Calls Try.prog 74 #[.slice (some ⟨b, 0, none⟩) len cap] w fun e w' => e = .returned (.int .i64 (areaI zs)) ∧ Below w.heap.size w w' := by
  have HZ := Lib.hid hz
  have HP := Lib.hid hp
  have HV := Lib.hid hv
  have hbw := hp.1
  clear hz hp hv
  refine callsIn_wide (n := 2) |>.1 ?_
  refine callsIn_of_wp_marks Try.func74 rfl trivial ?_ rfl
  simp only [Try.ntmps74, List.size_toArray, List.length_cons, List.length_nil, Nat.reduceAdd, Nat.reduceSub, Array.replicate_succ, Array.replicate_zero, List.push_toArray, List.append_toArray, List.nil_append, List.cons_append]
  gi_wp2_with fail
  refine ⟨trivial, (callsIn_wide.2 (edges_any _ _ _ _)).mono ?_⟩
  rintro e w1 ⟨B, rfl, hm⟩
  have hB := hm.high
  have hBc : w1.cell? ⟨B, 0, none⟩ = some (.slice (some ⟨b, 0, none⟩) len cap) := by simp [World.cell?, hm.here]
  have HM := Lib.hid hm.below
  have hlow := hm.low
  clear hm
  have hw1 : w.heap.size < w1.heap.size := by have := HM.out.size; simp at this; omega
  have hlow' : w.heap.size < B := by simp at hlow; omega
  have HB1 : Hid (Below w.heap.size w w1) := Lib.hid (bseq (one_alloc _) HM.out)
  have HBOX : Hid (Boxed w1 w.heap.size 2 (.int .i64 0)) := Lib.hid ((Boxed.new w 2 (.int .i64 0)).kept (grown_none HM.out) (by simp))
  gi_wp2
  refine wp_edges B b len cap zs HZ.out h1 (by omega) rfl hB hBc (HP.out.below HB1.out HP.out.1) (SumAt (crF zs) w w.heap.size 2) (fun _ _ _ => False) (sumAt_own _ (by omega) hw1) (fun _ _ _ _ _ h _ _ => h) ⟨HB1.out, HBOX.out⟩
    (fun x a' W => ∃ E, w1.heap.size ≤ E ∧ W.heap[E]? = some (seg4 zs x) ∧ a' = { tmps := #[.slice (some ⟨b, 0, none⟩) len cap, undef, .int .i64 0, .pointer (some ⟨w.heap.size, 0, none⟩), .pointer (some ⟨E, 0, none⟩), .slice (some ⟨b, 0, none⟩) len cap, .func (.func 106) #[] #[.pointer (some ⟨B, 0, none⟩)], segV zs x, undef, undef, undef, undef, undef, undef, undef, undef], defers := [] }) ?_ ?_ ?_ ?_ ?_
  · rintro x a' _ X Y row ⟨E, h1, h2, h3⟩ hg hr
    exact ⟨E, h1, own_cells rfl () X Y row h2 hg hr, h3⟩
  · intro l pre x W K hW hI hK
    unfold segV
    gi_wp2
    refine hK _ _ ((KeepsOthers.alloc _ _).from _) (Keep2.of_below (one_alloc _) (by omega) (by omega)) ((sumAt_own (B := w1.heap.size) _ (by omega) hw1).alloc _ hI) ⟨W.heap.size, hW, World.alloc_heap_new _ _, rfl⟩
  · rintro l pre x a' W hW hI ⟨E, hE1, hE2, rfl⟩ hlen
    have HI := Lib.hid hI
    obtain ⟨c0, f0, c1, f1, c2, f2, c3, f3⟩ := cells4_of hE2
    have hsc := hI.2.cell
    have hsf := hI.2.frozen
    have hEW : E < W.heap.size := (Array.getElem?_eq_some_iff.1 hE2).1
    have hSW : w.heap.size < W.heap.size := by omega
    have o1 := pt_ok HV.out (by have := HZ.out; omega) x
    have o2 := pt_ok HV.out (by have := HZ.out; omega) (x + 1)
    have b1 := ok_bd o1
    have b2 := ok_bd o2
    have hbd := sumOf_bd (crF zs) 400000000 (fun k => cr_bd (pt_ok HV.out (by have := HZ.out; omega) k) (pt_ok HV.out (by have := HZ.out; omega) (k + 1))) pre
    have HS := Lib.hid (sumOf_snoc (crF zs) pre x)
    have HF := Lib.hid (show crF zs x = (pt zs x).1 * (pt zs (x + 1)).2 - (pt zs x).2 * (pt zs (x + 1)).1 from rfl)
    generalize sumOf (crF zs) pre = s at *
    generalize (pt zs x).1 = xa at *
    generalize (pt zs x).2 = ya at *
    generalize (pt zs (x + 1)).1 = xb at *
    generalize (pt zs (x + 1)).2 = yb at *
    have m1 := mulB xa yb 20000 20000 (by omega) (by omega) (by omega) (by omega)
    have m2 := mulB ya xb 20000 20000 (by omega) (by omega) (by omega) (by omega)
    have q4 : IntKind.i64.wrap (s + (xa * yb - ya * xb)) = s + (xa * yb - ya * xb) := IntWalk.i64_in _ (by omega)
    clear hI hE2 f0 f1 f2 f3 o1 o2
    gi_wp2
    refine wpIn_region_plan (grants_round l 0 _ _ (by kernel_rfl)) 1 [7] [.val 0 [] (.int .i64 s), .val 1 [] (.pointer (some ⟨E, 0, none⟩)), .val 2 [] (.agg #[.int .i64 xa, .int .i64 ya]), .val 3 [] (.pointer (some ⟨E, 2, none⟩)), .val 4 [] (.agg #[.int .i64 xb, .int .i64 yb]), .val 5 [] (.int .i64 (xa * yb - ya * xb)), .val 6 [] (.int .i64 (s + (xa * yb - ya * xb)))] (by kernel_rfl) (by kernel_rfl) rfl ?_
    refine plan_val (by kernel_rfl) (by kernel_rfl) (by kernel_rfl) (by go_simp) (fun w1 hw1 => ?_) ?_
    · obtain ⟨hc, hf⟩ := bcell hw1; clear hw1; go_simp; (try with_reducible rfl)
    (try simp only [Act.put, List.setIfInBounds_toArray, List.set_cons_zero, List.set_cons_succ])
    refine plan_val (by kernel_rfl) (by kernel_rfl) (by kernel_rfl) (by go_simp) (fun w1 hw1 => ?_) ?_
    · obtain ⟨hc, hf⟩ := bcell hw1; clear hw1; go_simp; (try with_reducible rfl)
    (try simp only [Act.put, List.setIfInBounds_toArray, List.set_cons_zero, List.set_cons_succ])
    refine plan_val (by kernel_rfl) (by kernel_rfl) (by kernel_rfl) (by go_simp) (fun w1 hw1 => ?_) ?_
    · obtain ⟨hc, hf⟩ := bcell hw1; clear hw1; go_simp; (try with_reducible rfl)
    (try simp only [Act.put, List.setIfInBounds_toArray, List.set_cons_zero, List.set_cons_succ])
    refine plan_val (by kernel_rfl) (by kernel_rfl) (by kernel_rfl) (by go_simp) (fun w1 hw1 => ?_) ?_
    · obtain ⟨hc, hf⟩ := bcell hw1; clear hw1; go_simp; (try with_reducible rfl)
    (try simp only [Act.put, List.setIfInBounds_toArray, List.set_cons_zero, List.set_cons_succ])
    refine plan_val (by kernel_rfl) (by kernel_rfl) (by kernel_rfl) (by go_simp) (fun w1 hw1 => ?_) ?_
    · obtain ⟨hc, hf⟩ := bcell hw1; clear hw1; go_simp; (try with_reducible rfl)
    (try simp only [Act.put, List.setIfInBounds_toArray, List.set_cons_zero, List.set_cons_succ])
    refine plan_call [] 60 #[.agg #[.int .i64 xa, .int .i64 ya], .agg #[.int .i64 xb, .int .i64 yb]] (by kernel_rfl) (by kernel_rfl) (by kernel_rfl) (by kernel_rfl) (by go_simp) (fun w1 hw1 => ?_) (fun w1 hC => ?_) ?_
    · clear hw1; go_simp; (try with_reducible rfl)
    · exact cross_any _ _ _ _ _ (by omega) (by omega) (by omega) (by omega)
    (try simp only [Act.put, List.setIfInBounds_toArray, List.set_cons_zero, List.set_cons_succ])
    refine plan_val (by kernel_rfl) (by kernel_rfl) (by kernel_rfl) (by go_simp) (fun w1 hw1 => ?_) ?_
    · obtain ⟨hc, hf⟩ := bcell hw1; clear hw1; go_simp; (try with_reducible rfl)
    (try simp only [Act.put, List.setIfInBounds_toArray, List.set_cons_zero, List.set_cons_succ])
    refine plan_tail (fun _ => trivial) (by kernel_rfl) (by kernel_rfl) rfl (fun w2 hC => ?_)
    have HB2 := Lib.hid hC.1
    obtain ⟨k2, q2⟩ := bcell hC.1
    have hsc2 := (k2 _ 0 hSW).trans hsc
    have hsf2 := (q2 _ 0 hSW).trans hsf
    clear hC k2 q2 hsc hsf
    gi_wp2
    have hB3 := HB2.out
    refine ⟨(((KeepsOthers.of_grownBy (grown_none hB3) (fun j o e => by cases e))).trans (KeepsOthers.setCell _ _ _)).from _, (Keep2.of_below hB3 (by omega) (by omega)).trans (Keep2.setCell (by show w.heap.size ≠ b; omega) (by show w.heap.size ≠ B; omega) _), ((HI.out.1.trans (hB3.mono (by omega))).setCell (Nat.le_refl _) _), ?_⟩
    show Boxed _ _ _ (.int .i64 (sumOf (crF zs) (pre ++ [x])))
    rw [HS.out, HF.out]
    exact (HI.out.2.kept (grown_none hB3) (by simp)).set _
  · intro D W hD hI hd
    have HI := Lib.hid hI
    have hsc := hI.2.cell
    clear hI
    gi_wp2
    refine ⟨by simp, .inl ⟨_, _, rfl, run_takeDeferred hd, ?_⟩⟩
    refine ⟨_, results_tmp rfl _ _ _, ?_⟩
    exact ⟨ret_int (by rw [sumOf_range, HZ.out]; rfl), belowK_put HI.out.1 (by omega) hd⟩
  · intro D c k W _ _ h _
    exact h.elim
end Go.Proofs.Ytcbbhpabiijpoaa
