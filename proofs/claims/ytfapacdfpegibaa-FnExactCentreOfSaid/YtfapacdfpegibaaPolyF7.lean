/- The centre of gravity of a polygon, of impl. -/
import Derived.Test.YtfapacdfpegibaaPolyF6
import Derived.Test.YtfapacdfpegibaaPlanIn
import Derived.Test.YtfapacdfpegibaaNear
namespace Go.Proofs.Ytfapacdfpegibaa
attribute [local go_sem] Oper.semAt_some
open Go.Shelf Go.ChangeShapes Go.WideShapes Go.ChangeAt Go.RowKit
set_option linter.unusedVariables false

/-- Between two rounds: a block of two numbers holds the two sums. -/
def Sum2At (f g : Nat → Int) (w : World) (S : Nat) (t : TypeId) (pre : List Nat) (W : World) : Prop := Below w.heap.size w W ∧ W.heap[S]? = some (.cells #[.int .i64 (sumOf f pre), .int .i64 (sumOf g pre)] t (0, 0))
theorem sum2At_own (f g : Nat → Int) {w : World} {S B : Nat} {t : TypeId} (hB : w.heap.size ≤ B) (hS : S < B) : OwnFrom B (Sum2At f g w S t) := fun s X Y row hs hg hr =>
  ⟨ownFrom_below (β := Unit) (Nat.le_refl _) hB () X Y row hs.1 hg hr, (hg.block S (heap_lt hs.2) (fun e => by obtain ⟨h1, _⟩ := hr S e.symm; omega)).trans hs.2⟩
theorem sumOf_bd' {f : Nat → Int} (h : ∀ k, -16000000000000 ≤ f k ∧ f k ≤ 16000000000000) {pre : List Nat} (hl : pre.length ≤ 24) : -384000000000000 ≤ sumOf f pre ∧ sumOf f pre ≤ 384000000000000 := by
  have := sumOf_bd f 16000000000000 h pre
  omega
theorem near_below (a b : Int) (w : World) (ha1 : -1000000000000000 ≤ a) (ha2 : a ≤ 1000000000000000) (hb1 : -1000000000000000 ≤ b) (hb2 : b ≤ 1000000000000000) (hb : b ≠ 0) :
    Calls Try.prog 78 #[.int .i64 a, .int .i64 b] w fun e w' => e = .returned (.int .i64 (nearI a b)) ∧ Below w.heap.size w w' :=
  (near_any a b w ha1 ha2 hb1 hb2 hb).mono fun e w' ⟨h1, n, h2⟩ => ⟨h1, by rw [h2]; exact below_drewN (Below.refl _ _) n⟩
set_option maxRecDepth 100000 in
set_option maxHeartbeats 4000000 in
theorem cenI_yes (ao : Option Addr) (len cap : Nat) (zs : List P2) (w : World) (hl : len ≤ 1048576) (hp : PV w ao len zs) (hv : polyB zs = true) :
    Calls Try.prog 26 #[.slice ao len cap] w fun e w' => e = .returned (.tuple #[.agg #[.int .i64 (cenX zs), .int .i64 (cenY zs)], .int .i64 0]) ∧ Below w.heap.size w w' := by
  have harea := (poly_ok hv).2.2.2.2.2
  obtain ⟨z3, z4, hok, _, _, _⟩ := poly_ok hv
  have hz := hp.1
  obtain ⟨b, hao, hpp⟩ := hp.at (by omega)
  subst hao
  have HQ := Lib.hid hp
  have HP := Lib.hid hpp
  have HT := Lib.hid hv
  have HV := Lib.hid hok
  have HZ := Lib.hid hz
  have l3 : 3 ≤ len := by omega
  have l4 : len ≤ 24 := by omega
  have hbw := hpp.1
  clear hp hpp hv hok hz
  have HQ0 := Lib.hid (HQ.out.below (one_alloc (w := w) (.cells #[.int .i64 0, .int .i64 0] 27)))
  have HP0 := Lib.hid (HP.out.below (one_alloc (w := w) (.cells #[.int .i64 0, .int .i64 0] 27)) hbw)
  have M := Lib.hid (At.new w (.cells #[.int .i64 0, .int .i64 0] 27))
  refine callsIn_wide (n := 2) |>.1 ?_
  refine callsIn_of_wp_marks Try.func26 rfl trivial ?_ rfl
  simp only [Try.ntmps26, List.size_toArray, List.length_cons, List.length_nil, Nat.reduceAdd, Nat.reduceSub, Array.replicate_succ, Array.replicate_zero, List.push_toArray, List.append_toArray, List.nil_append, List.cons_append]
  gi_wp2_with fail
  refine ⟨trivial, (callsIn_wide.2 (valid_pimpl _ len cap zs _ hl HQ0.out)).mono ?_⟩
  rintro e w1 ⟨rfl, g1⟩
  have HP1 := Lib.hid (HP0.out.below g1 HP0.out.1)
  have HW1 := Lib.hid (bseq (one_alloc _) g1)
  have hs1 : w.heap.size < w1.heap.size := by have := g1.size; simp at this; omega
  replace M := Lib.hid (M.out.below g1)
  rw [HT.out]
  clear g1
  gi_wp2_with fail
  refine ⟨trivial, (callsIn_wide.2 (edges_any _ _ _ _)).mono ?_⟩
  rintro e w2 ⟨B, rfl, hm⟩
  have hB := hm.high
  have hBc : w2.cell? ⟨B, 0, none⟩ = some (.slice (some ⟨b, 0, none⟩) len cap) := by simp [World.cell?, hm.here]
  have HM := Lib.hid hm.below
  have hlow := hm.low
  clear hm
  have hw1 : w1.heap.size < w2.heap.size := by have := HM.out.size; simp at this; omega
  have hlow' : w1.heap.size < B := by simp at hlow; omega
  have HB1 : Hid (Below w1.heap.size w1 w2) := Lib.hid (bseq (one_alloc _) HM.out)
  have HBOX : Hid (At w2 w1.heap.size (.cells #[.int .i64 0, .int .i64 0] 27)) := Lib.hid ((At.new w1 (.cells #[.int .i64 0, .int .i64 0] 27)).below HM.out)
  have M1 := M
  replace M := Lib.hid (M.out.below HB1.out)
  gi_wp2
  refine wp_edges B b len cap zs HZ.out (by omega) (by omega) rfl hB hBc (HP1.out.below HB1.out (by omega)) (Sum2At (wX zs) (wY zs) w1 w1.heap.size 27) (fun _ _ _ => False) (sum2At_own _ _ (by omega) hw1) (fun _ _ _ _ _ h _ _ => h) ⟨HB1.out, HBOX.out⟩
    (fun x a' W => ∃ E, w2.heap.size ≤ E ∧ W.heap[E]? = some (seg4 zs x) ∧ a' = { tmps := #[.slice (some ⟨b, 0, none⟩) len cap, undef, .pointer (some ⟨w.heap.size, 0, none⟩), .int .i64 0, .pointer (some ⟨w1.heap.size, 0, none⟩), .pointer (some ⟨E, 0, none⟩), undef, undef, .slice (some ⟨b, 0, none⟩) len cap, .bool true, .bool false, undef, .slice (some ⟨b, 0, none⟩) len cap, .func (.func 118) #[] #[.pointer (some ⟨B, 0, none⟩)], segV zs x, undef, undef, undef, undef, undef, undef, undef, undef, undef, undef, undef, undef, undef, undef, undef, undef, undef, undef, undef, undef, undef, undef, undef, undef, undef, undef, undef, undef, undef, undef, undef, undef, undef, undef, undef, undef, undef, undef, undef, undef, undef, undef, undef], defers := [] }) ?_ ?_ ?_ ?_ ?_
  · rintro x a' _ X Y row ⟨E, h1, h2, h3⟩ hg hr
    exact ⟨E, h1, own_cells rfl () X Y row h2 hg hr, h3⟩
  · intro l pre x W K hW hI hK
    unfold segV
    gi_wp2
    refine hK _ _ ((KeepsOthers.alloc _ _).from _) (Keep2.of_below (one_alloc _) (by omega) (by omega)) ((sum2At_own (B := w2.heap.size) _ _ (by omega) hw1).alloc _ hI) ⟨W.heap.size, hW, World.alloc_heap_new _ _, rfl⟩
  · rintro l pre x a' W hW hI ⟨E, hE1, hE2, rfl⟩ hlen
    have HI := Lib.hid hI
    obtain ⟨c0, f0, c1, f1, c2, f2, c3, f3⟩ := cells4_of hE2
    have hEW : E < W.heap.size := heap_lt hE2
    have NB := Lib.hid (show At W E (seg4 zs x) from hE2)
    have hSW : w1.heap.size < W.heap.size := by omega
    have o1 := pt_ok HV.out (by have := HZ.out; omega) x
    have o2 := pt_ok HV.out (by have := HZ.out; omega) (x + 1)
    have b1 := ok_bd o1
    have b2 := ok_bd o2
    have cb := crF_bd HV.out (by have := HZ.out; omega) x
    have sx := sumOf_bd' (wX_bd HV.out (by have := HZ.out; omega)) (pre := pre) (by omega)
    have sy := sumOf_bd' (wY_bd HV.out (by have := HZ.out; omega)) (pre := pre) (by omega)
    have HX : Hid (sumOf (wX zs) (pre ++ [x]) = sumOf (wX zs) pre + ((pt zs x).1 + (pt zs (x + 1)).1) * crF zs x) := Lib.hid (sumOf_snoc _ _ _)
    have HY : Hid (sumOf (wY zs) (pre ++ [x]) = sumOf (wY zs) pre + ((pt zs x).2 + (pt zs (x + 1)).2) * crF zs x) := Lib.hid (sumOf_snoc _ _ _)
    have HCF := Lib.hid (show crF zs x = (pt zs x).1 * (pt zs (x + 1)).2 - (pt zs x).2 * (pt zs (x + 1)).1 from rfl)
    obtain ⟨p0, p1, p2, p3⟩ := cells2_of hI.2
    have HBX : Hid (At W w1.heap.size (.cells #[.int .i64 (sumOf (wX zs) pre), .int .i64 (sumOf (wY zs) pre)] 27)) := Lib.hid hI.2
    unfold seg4 at NB
    generalize sumOf (wX zs) pre = s at *
    generalize sumOf (wY zs) pre = t at *
    generalize (pt zs x).1 = xa at *
    generalize (pt zs x).2 = ya at *
    generalize (pt zs (x + 1)).1 = xb at *
    generalize (pt zs (x + 1)).2 = yb at *
    clear hI hE2 f0 f1 f2 f3 o1 o2
    gi_wp2_with fail
    refine ⟨trivial, rfl, CallsIn.inRound l ((callsIn_wide.2 (cross_any _ _ _ _ _ (by omega) (by omega) (by omega) (by omega))).mono ?_)⟩
    rintro e w3 ⟨rfl, g3⟩
    rw [← HCF.out]
    generalize crF zs x = ce at *
    have mx := mulB (xa + xb) ce 40000 400000000 (by omega) (by omega) (by omega) (by omega)
    have my := mulB (ya + yb) ce 40000 400000000 (by omega) (by omega) (by omega) (by omega)
    have q7 : IntKind.i64.wrap ((xa + xb) * ce) = (xa + xb) * ce := IntWalk.i64_in _ (by omega)
    have q8 : IntKind.i64.wrap ((ya + yb) * ce) = (ya + yb) * ce := IntWalk.i64_in _ (by omega)
    have q9 : IntKind.i64.wrap (s + (xa + xb) * ce) = s + (xa + xb) * ce := IntWalk.i64_in _ (by omega)
    have q10 : IntKind.i64.wrap (t + (ya + yb) * ce) = t + (ya + yb) * ce := IntWalk.i64_in _ (by omega)
    replace NB := Lib.hid (NB.out.below g3)
    replace HBX := Lib.hid (HBX.out.below g3)
    have HB3 := Lib.hid g3
    clear g3 c0 c1 c2 c3 p0 p1 p2 p3 hSW hEW
    obtain ⟨c0, _, c1, _, c2, _, c3, _⟩ := cells4_of NB.out
    obtain ⟨p0, p1, p2, p3⟩ := cells2_of HBX.out
    have hSW := heap_lt HBX.out
    have hEW := heap_lt NB.out
    have ne1 : w1.heap.size ≠ E := by omega
    have ne2 : E ≠ w1.heap.size := by omega
    gi_wp2
    have hB3 := HB3.out
    refine ⟨((((KeepsOthers.of_grownBy (grown_none hB3) (fun j o e => by cases e))).trans (KeepsOthers.setCell _ _ _)).trans (KeepsOthers.setCell _ _ _)).from _, ((Keep2.of_below hB3 (by omega) (by omega)).trans (Keep2.setCell (by show w1.heap.size ≠ b; omega) (by show w1.heap.size ≠ B; omega) _)).trans (Keep2.setCell (by show w1.heap.size ≠ b; omega) (by show w1.heap.size ≠ B; omega) _), (((HI.out.1.trans (hB3.mono (by omega))).setCell (Nat.le_refl _) _).setCell (Nat.le_refl _) _), ?_⟩
    show _ = some (Obj.cells #[.int .i64 (sumOf (wX zs) (pre ++ [x])), .int .i64 (sumOf (wY zs) (pre ++ [x]))] _ _)
    rw [HX.out, HY.out, heap_setCell_same _ _ 1 _ _ _ (heap_setCell_same _ _ 0 _ _ _ HBX.out)]
    simp
  · intro D W hD hI hd
    have HI := Lib.hid hI
    have HPD := Lib.hid (HP1.out.below HI.out.1 (by omega))
    clear hI
    have ab := area_bd HV.out (by have := HZ.out; omega) zs.length
    replace ab : areaI zs ≤ 24 * 400000000 := by have := HZ.out; unfold areaI; omega
    have q3 : IntKind.i64.wrap (3 * areaI zs) = 3 * areaI zs := IntWalk.i64_in _ (by omega)
    have sx := sumOf_bd' (wX_bd HV.out (by have := HZ.out; omega)) (pre := List.range len) (by simpa using l4)
    have sy := sumOf_bd' (wY_bd HV.out (by have := HZ.out; omega)) (pre := List.range len) (by simpa using l4)
    have HCX : Hid (nearI (sumOf (wX zs) (List.range len)) (3 * areaI zs) = cenX zs) := Lib.hid (by rw [sumOf_range, cenX, HZ.out])
    have HCY : Hid (nearI (sumOf (wY zs) (List.range len)) (3 * areaI zs) = cenY zs) := Lib.hid (by rw [sumOf_range, cenY, HZ.out])
    have HDD := Lib.hid (show At W D (.deferred (some [])) from hd)
    have HS2 : Hid (At W w1.heap.size (.cells #[.int .i64 (sumOf (wX zs) (List.range len)), .int .i64 (sumOf (wY zs) (List.range len))] 27)) := Lib.hid HI.out.2
    have HRES := Lib.hid (M1.out.below HI.out.1)
    gi_wp2_with fail
    refine ⟨trivial, (callsIn_wide.2 (area_impl b len cap zs _ HZ.out (by omega) l4 HV.out HPD.out)).mono ?_⟩
    rintro e w3 ⟨rfl, g3⟩
    replace HDD := Lib.hid (HDD.out.below g3)
    replace HS2 := Lib.hid (HS2.out.below g3)
    replace HRES := Lib.hid (HRES.out.below g3)
    have HW3 := Lib.hid (HW1.out.trans ((bseq HI.out.1 g3).mono (by omega)))
    clear g3
    gi_wp2
    refine wpIn_region_plan_env (grants_any _ _ _) 0 [] w [⟨99, w.heap.size, .cells #[.int .i64 (0), .int .i64 (0)] 27 (0, 0)⟩, ⟨98, w1.heap.size, .cells #[.int .i64 (sumOf (wX zs) (List.range len)), .int .i64 (sumOf (wY zs) (List.range len))] 27 (0, 0)⟩, ⟨97, D, .deferred (some [])⟩] [.val 0 [] (.pointer (some ⟨w1.heap.size, 0, none⟩)), .val 1 [98] (.int .i64 (sumOf (wX zs) (List.range len))), .val 2 [] (.int .i64 (3 * areaI zs)), .val 3 [] (.int .i64 (nearI (sumOf (wX zs) (List.range len)) (3 * areaI zs))), .val 4 [] (.pointer (some ⟨w1.heap.size, 1, none⟩)), .val 5 [98] (.int .i64 (sumOf (wY zs) (List.range len))), .val 6 [] (.int .i64 (3 * areaI zs)), .val 7 [] (.int .i64 (nearI (sumOf (wY zs) (List.range len)) (3 * areaI zs))), .val 8 [] (.agg #[.int .i64 (nearI (sumOf (wX zs) (List.range len)) (3 * areaI zs)), .int .i64 (nearI (sumOf (wY zs) (List.range len)) (3 * areaI zs))]), .put 9 99 (.cells #[.int .i64 (nearI (sumOf (wX zs) (List.range len)) (3 * areaI zs)), .int .i64 (nearI (sumOf (wY zs) (List.range len)) (3 * areaI zs))] 27 (0, 0)), .val 10 [] (.int .i64 0)] (by kernel_rfl) (by kernel_rfl) rfl (by simp) (es_one _ (by simp <;> omega)) HW3.out (by simp only [List.mem_cons, List.not_mem_nil, or_false]; rintro x (rfl | rfl | rfl); exact ⟨Nat.le_refl _, heap_lt HRES.out, HRES.out⟩; exact ⟨by show w.heap.size ≤ w1.heap.size; omega, heap_lt HS2.out, HS2.out⟩; exact ⟨by show w.heap.size ≤ D; omega, heap_lt HDD.out, HDD.out⟩) ?_
    refine plan_val (by kernel_rfl) (by kernel_rfl) (by kernel_rfl) (by go_simp) (fun w1 hw1 => ?_) ?_
    · obtain ⟨hc, hf⟩ := bcell hw1; clear hw1; go_simp; (try with_reducible rfl)
    (try simp only [Act.put, List.setIfInBounds_toArray, List.set_cons_zero, List.set_cons_succ])
    refine plan_valu [98] (by kernel_rfl) (by kernel_rfl) (by kernel_rfl) (by kernel_rfl) (by go_simp) (fun w1 hC => ?_) ?_
    · obtain ⟨_, _, y3⟩ := hC.2 ⟨98, _, _⟩ ⟨List.mem_cons_of_mem _ (List.mem_cons_self ..), rfl⟩; obtain ⟨cc0, _, cc1, _⟩ := cells2_of y3; clear hC; go_simp; (try with_reducible rfl)
    (try simp only [Act.put, List.setIfInBounds_toArray, List.set_cons_zero, List.set_cons_succ])
    refine plan_val (by kernel_rfl) (by kernel_rfl) (by kernel_rfl) (by go_simp) (fun w1 hw1 => ?_) ?_
    · obtain ⟨hc, hf⟩ := bcell hw1; clear hw1; go_simp; (try with_reducible rfl)
    (try simp only [Act.put, List.setIfInBounds_toArray, List.set_cons_zero, List.set_cons_succ])
    refine plan_call [] 78 #[.int .i64 (sumOf (wX zs) (List.range len)), .int .i64 (3 * areaI zs)] (by kernel_rfl) (by kernel_rfl) (by kernel_rfl) (by kernel_rfl) (by go_simp) (fun w1 hw1 => ?_) (fun w1 hC => ?_) ?_
    · clear hw1; go_simp; (try with_reducible rfl)
    · exact near_below _ _ _ (by omega) (by omega) (by omega) (by omega) (by omega)
    (try simp only [Act.put, List.setIfInBounds_toArray, List.set_cons_zero, List.set_cons_succ])
    refine plan_val (by kernel_rfl) (by kernel_rfl) (by kernel_rfl) (by go_simp) (fun w1 hw1 => ?_) ?_
    · obtain ⟨hc, hf⟩ := bcell hw1; clear hw1; go_simp; (try with_reducible rfl)
    (try simp only [Act.put, List.setIfInBounds_toArray, List.set_cons_zero, List.set_cons_succ])
    refine plan_valu [98] (by kernel_rfl) (by kernel_rfl) (by kernel_rfl) (by kernel_rfl) (by go_simp) (fun w1 hC => ?_) ?_
    · obtain ⟨_, _, y3⟩ := hC.2 ⟨98, _, _⟩ ⟨List.mem_cons_of_mem _ (List.mem_cons_self ..), rfl⟩; obtain ⟨cc0, _, cc1, _⟩ := cells2_of y3; clear hC; go_simp; (try with_reducible rfl)
    (try simp only [Act.put, List.setIfInBounds_toArray, List.set_cons_zero, List.set_cons_succ])
    refine plan_val (by kernel_rfl) (by kernel_rfl) (by kernel_rfl) (by go_simp) (fun w1 hw1 => ?_) ?_
    · obtain ⟨hc, hf⟩ := bcell hw1; clear hw1; go_simp; (try with_reducible rfl)
    (try simp only [Act.put, List.setIfInBounds_toArray, List.set_cons_zero, List.set_cons_succ])
    refine plan_call [] 78 #[.int .i64 (sumOf (wY zs) (List.range len)), .int .i64 (3 * areaI zs)] (by kernel_rfl) (by kernel_rfl) (by kernel_rfl) (by kernel_rfl) (by go_simp) (fun w1 hw1 => ?_) (fun w1 hC => ?_) ?_
    · clear hw1; go_simp; (try with_reducible rfl)
    · exact near_below _ _ _ (by omega) (by omega) (by omega) (by omega) (by omega)
    (try simp only [Act.put, List.setIfInBounds_toArray, List.set_cons_zero, List.set_cons_succ])
    refine plan_val (by kernel_rfl) (by kernel_rfl) (by kernel_rfl) (by go_simp) (fun w1 hw1 => ?_) ?_
    · obtain ⟨hc, hf⟩ := bcell hw1; clear hw1; go_simp; (try with_reducible rfl)
    (try simp only [Act.put, List.setIfInBounds_toArray, List.set_cons_zero, List.set_cons_succ])
    refine plan_put (p := w.heap.size) (by kernel_rfl) (by kernel_rfl) (by kernel_rfl) (by kernel_rfl) (by go_simp) (List.mem_cons_self ..) (fun w1 hg hh => ?_) ?_
    · obtain ⟨c0, f0, c1, f1⟩ := cells2_of hh
      refine ⟨_, ?_, stored2 hh⟩
      clear hh hg; go_simp; (try with_reducible rfl)
    (try simp only [Act.put])
    refine plan_val (by kernel_rfl) (by kernel_rfl) (by kernel_rfl) (by go_simp) (fun w1 hw1 => ?_) ?_
    · obtain ⟨hc, hf⟩ := bcell hw1; clear hw1; go_simp; (try with_reducible rfl)
    (try simp only [Act.put, List.setIfInBounds_toArray, List.set_cons_zero, List.set_cons_succ])
    refine plan_end (fun _ => trivial) (by kernel_rfl) (fun w4 hC => ?_)
    obtain ⟨_, s0, g0⟩ := hC.2 ⟨99, w.heap.size, .cells #[.int .i64 (nearI (sumOf (wX zs) (List.range len)) (3 * areaI zs)), .int .i64 (nearI (sumOf (wY zs) (List.range len)) (3 * areaI zs))] 27 (0, 0)⟩ (Or.inr ⟨⟨99, w.heap.size, _⟩, List.mem_cons_self .., rfl, rfl⟩)
    obtain ⟨_, s1, g1⟩ := hC.2 ⟨97, D, .deferred (some [])⟩ (Or.inl ⟨List.mem_cons_of_mem _ (List.mem_cons_of_mem _ (List.mem_cons_self ..)), (fun h => by cases h)⟩)
    have HF := Lib.hid hC.1
    have hne : w.heap.size ≠ D := by omega
    have g0' : (w4.putObj D (.deferred none)).heap[w.heap.size]? = _ := (World.putObj_heap_other hne).trans g0
    obtain ⟨q0, _, q1, _⟩ := cells2_of g0'
    clear hC
    gi_wp2
    refine ⟨by simp, .inl ⟨_, _, rfl, run_takeDeferred g1, ?_⟩⟩
    exact ⟨.tuple #[.agg #[.int .i64 (nearI (sumOf (wX zs) (List.range len)) (3 * areaI zs)), .int .i64 (nearI (sumOf (wY zs) (List.range len)) (3 * areaI zs))], .int .i64 0], by simp [results, Try.results26, go_sem, q0, q1], by rw [HCX.out, HCY.out], belowK_put HF.out (by omega) g1⟩
  · intro D c k W _ _ h _
    exact h.elim
end Go.Proofs.Ytfapacdfpegibaa
