/- Is a point inside of a polygon, in impl. -/
import Derived.Test.YthflkkkpggaalaaIns1
import Derived.Test.YthflkkkpggaalaaK6
import Derived.Test.YthflkkkpggaalaaLawAid
import Derived.Test.YthflkkkpggaalaaK3
namespace Go.Proofs.Ythflkkkpggaalaa
attribute [local go_sem] Oper.semAt_some
open Go.Shelf Go.ChangeShapes Go.WideShapes Go.ChangeAt Go.RowKit
set_option linter.unusedVariables false
set_option linter.unusedSimpArgs false

def allW (zs : List P2) : Bool := zs.all fun p => okW p.1 p.2
theorem allW_of {zs : List P2} (h : allOk zs = true) : allW zs = true := by
  unfold allW allOk at *
  rw [List.all_eq_true] at *
  exact fun p hp => okW_of (h p hp)
theorem allW_at {zs : List P2} (h : allW zs = true) {k : Nat} (hk : k < zs.length) : okW (zs.getD k (0, 0)).1 (zs.getD k (0, 0)).2 = true := by
  unfold allW at h
  rw [List.all_eq_true] at h
  have e : zs.getD k (0, 0) = zs[k] := by simp [hk]
  rw [e]
  exact h _ (List.getElem_mem hk)
theorem ptW {zs : List P2} (h : allW zs = true) (h0 : 0 < zs.length) (k : Nat) : okW (pt zs k).1 (pt zs k).2 = true := allW_at h (Nat.mod_lt _ h0)
theorem pas_bd (zs : List P2) (q : P2) (k : Nat) : -1 ≤ pasF zs q k ∧ pasF zs q k ≤ 1 := by
  unfold pasF pasI
  split
  · omega
  · split <;> omega
def insI (zs : List P2) (q : P2) : Int := if allTo (offF zs q) zs.length then (if sumTo (pasF zs q) zs.length = 0 then -1 else 1) else 0
/-- Between two rounds: the point, the answer and the sum of the passings. -/
def PlcAt (zs : List P2) (q : P2) (w : World) (S : Nat) (tP t : TypeId) (pre : List Nat) (W : World) : Prop :=
  Below w.heap.size w W ∧ W.heap[S]? = some (.cells #[.int .i64 q.1, .int .i64 q.2] tP (0, 0)) ∧ W.heap[S + 1]? = some (.cells #[.int .i64 0] t (0, 0)) ∧ W.heap[S + 1 + 1]? = some (.cells #[.int .i64 (sumOf (pasF zs q) pre)] t (0, 0)) ∧ ∀ k, k ∈ pre → offF zs q k = true
def PlcEx (zs : List P2) (q : P2) (w : World) (S : Nat) (t : TypeId) (c : Code) (pre : List Nat) (W : World) : Prop :=
  c = .ret ∧ Below w.heap.size w W ∧ W.heap[S + 1]? = some (.cells #[.int .i64 0] t (0, 0)) ∧ ∃ k, k ∈ pre ∧ offF zs q k = false
theorem plcAt_own (zs : List P2) (q : P2) {w : World} {S B : Nat} {tP t : TypeId} (hB : w.heap.size ≤ B) (hS : S + 1 + 1 < B) : OwnFrom B (PlcAt zs q w S tP t) := fun s X Y row hs hg hr =>
  have keep : ∀ {j : Nat} {o : Obj}, j < B → X.heap[j]? = some o → Y.heap[j]? = some o := fun {j o} hj h => (hg.block j (heap_lt h) (fun e => by obtain ⟨h1, _⟩ := hr j e.symm; omega)).trans h
  ⟨ownFrom_below (β := Unit) (Nat.le_refl _) hB () X Y row hs.1 hg hr, keep (by omega) hs.2.1, keep (by omega) hs.2.2.1, keep (by omega) hs.2.2.2.1, hs.2.2.2.2⟩
theorem plcEx_own (zs : List P2) (q : P2) {w : World} {S B : Nat} {t : TypeId} (c : Code) (hB : w.heap.size ≤ B) (hS : S + 1 + 1 < B) : OwnFrom B (PlcEx zs q w S t c) := fun s X Y row hs hg hr =>
  have keep : ∀ {j : Nat} {o : Obj}, j < B → X.heap[j]? = some o → Y.heap[j]? = some o := fun {j o} hj h => (hg.block j (heap_lt h) (fun e => by obtain ⟨h1, _⟩ := hr j e.symm; omega)).trans h
  ⟨hs.1, ownFrom_below (β := Unit) (Nat.le_refl _) hB () X Y row hs.2.1 hg hr, keep (by omega) hs.2.2.1, hs.2.2.2⟩
set_option maxRecDepth 100000 in
set_option maxRecDepth 100000 in
set_option maxHeartbeats 4000000 in
theorem place_W (b len cap : Nat) (zs : List P2) (xq yq : Int) (w : World) (hz : len = zs.length) (h1 : 1 ≤ len) (hl : len ≤ 24) (hv : allW zs = true) (hp : PtsAt w b zs) (hq : okW xq yq = true) :
    Calls Try.prog 50 #[.slice (some ⟨b, 0, none⟩) len cap, .agg #[.int .i64 xq, .int .i64 yq]] w fun e w' => e = .returned (.int .i64 (insI zs (xq, yq))) ∧ Below w.heap.size w w' := by
  have HZ := Lib.hid hz
  have HP := Lib.hid hp
  have HV := Lib.hid hv
  have HQ := Lib.hid hq
  have hbw := hp.1
  clear hz hp hv hq
  refine callsIn_wide (n := 2) |>.1 ?_
  refine callsIn_of_wp_marks Try.func50 rfl trivial ?_ rfl
  simp only [Try.ntmps50, List.size_toArray, List.length_cons, List.length_nil, Nat.reduceAdd, Nat.reduceSub, Array.replicate_succ, Array.replicate_zero, List.push_toArray, List.append_toArray, List.nil_append, List.cons_append]
  gi_wp2_with fail
  refine ⟨trivial, (callsIn_wide.2 (edges_any _ _ _ _)).mono ?_⟩
  rintro e w2 ⟨B, rfl, hm⟩
  have hB := hm.high
  have hBc : w2.cell? ⟨B, 0, none⟩ = some (.slice (some ⟨b, 0, none⟩) len cap) := by simp [World.cell?, hm.here]
  have HM := Lib.hid hm.below
  have hlow := hm.low
  clear hm
  have hw1 : w.heap.size + 1 + 1 < w2.heap.size := by have := HM.out.size; simp at this; omega
  have hlow' : w.heap.size + 1 + 1 < B := by simp at hlow; omega
  have HB1 : Hid (Below w.heap.size w w2) := Lib.hid (bseq (three_allocs _ _ _) HM.out)
  have HAT : Hid (PlcAt zs (xq, yq) w w.heap.size 39 2 [] w2) := Lib.hid (by
    have hm := HM.out
    refine ⟨HB1.out, (hm.block _ (by simp; omega)).trans ?_, (hm.block _ (by simp)).trans ?_, (hm.block _ (by simp)).trans ?_, fun k hk => by cases hk⟩
    · rw [Below.heap_alloc _ _ _ (by simp; omega), Below.heap_alloc _ _ _ (by simp)]; exact World.alloc_heap_new _ _
    · rw [Below.heap_alloc _ _ _ (by simp)]; have := World.alloc_heap_new (w.alloc (.cells #[.int .i64 xq, .int .i64 yq] 39)) (.cells #[.int .i64 0] 2); simpa using this
    · have := World.alloc_heap_new ((w.alloc (.cells #[.int .i64 xq, .int .i64 yq] 39)).alloc (.cells #[.int .i64 0] 2)) (.cells #[.int .i64 0] 2); simpa [sumOf] using this)
  gi_wp2
  refine wp_edges B b len cap zs HZ.out h1 (by omega) rfl hB hBc (HP.out.below HB1.out hbw) (PlcAt zs (xq, yq) w w.heap.size 39 2) (PlcEx zs (xq, yq) w w.heap.size 2) (plcAt_own _ _ (by omega) hw1) (fun c => plcEx_own _ _ c (by omega) hw1) HAT.out
    (fun x a' W => ∃ E, w2.heap.size ≤ E ∧ W.heap[E]? = some (seg4 zs x) ∧ a' = { tmps := #[.slice (some ⟨b, 0, none⟩) len cap, .agg #[.int .i64 xq, .int .i64 yq], undef, .pointer (some ⟨w.heap.size, 0, none⟩), .pointer (some ⟨w.heap.size + 1, 0, none⟩), .pointer (some ⟨w.heap.size + 1 + 1, 0, none⟩), .pointer (some ⟨E, 0, none⟩), .slice (some ⟨b, 0, none⟩) len cap, .func (.func 127) #[] #[.pointer (some ⟨B, 0, none⟩)], segV zs x, undef, undef, undef, undef, undef, undef, undef, undef, undef, undef], defers := [] }) ?_ ?_ ?_ ?_ ?_
  · rintro x a' _ X Y row ⟨E, h1, h2, h3⟩ hg hr
    exact ⟨E, h1, own_cells rfl () X Y row h2 hg hr, h3⟩
  · intro l pre x W K hW hI hK
    unfold segV
    gi_wp2
    refine hK _ _ ((KeepsOthers.alloc _ _).from _) (Keep2.of_below (one_alloc _) (by omega) (by omega)) ((plcAt_own (B := w2.heap.size) _ _ (by omega) hw1).alloc _ hI) ⟨W.heap.size, hW, World.alloc_heap_new _ _, rfl⟩
  · rintro l pre x a' W hW hI ⟨E, hE1, hE2, rfl⟩ hlen
    have HI := Lib.hid hI
    obtain ⟨c0, f0, c1, f1, c2, f2, c3, f3⟩ := cells4_of hE2
    have hEW : E < W.heap.size := heap_lt hE2
    have NB := Lib.hid (show At W E (seg4 zs x) from hE2)
    have o1 := ptW HV.out (by have := HZ.out; omega) x
    have o2 := ptW HV.out (by have := HZ.out; omega) (x + 1)
    obtain ⟨p0, p1, p2, p3⟩ := cells2_of hI.2.1
    have hsz : w.heap.size + 1 + 1 < W.heap.size := heap_lt hI.2.2.2.1
    have HO := Lib.hid (show offF zs (xq, yq) x = !onB (pt zs x).1 (pt zs x).2 (pt zs (x + 1)).1 (pt zs (x + 1)).2 xq yq from rfl)
    have HF := Lib.hid (show pasF zs (xq, yq) x = pasI (pt zs x).1 (pt zs x).2 (pt zs (x + 1)).1 (pt zs (x + 1)).2 xq yq from rfl)
    have HS := Lib.hid (sumOf_snoc (pasF zs (xq, yq)) pre x)
    have hbd := sumOf_bd (pasF zs (xq, yq)) 1 (fun k => pas_bd zs (xq, yq) k) pre
    have hb2 := pas_bd zs (xq, yq) x
    unfold seg4 at NB
    generalize (pt zs x).1 = xa at *
    generalize (pt zs x).2 = ya at *
    generalize (pt zs (x + 1)).1 = xb at *
    generalize (pt zs (x + 1)).2 = yb at *
    have HX := Lib.hid fun w => contains_W xa ya xb yb xq yq w o1 o2 HQ.out
    have HY := Lib.hid fun w => passing_W xa ya xb yb xq yq w o1 o2 HQ.out
    clear hI hE2 f0 f1 f2 f3 o1 o2
    gi_wp2_with fail
    refine ⟨trivial, rfl, CallsIn.inRound l ((callsIn_wide.2 (HX.out _)).mono ?_)⟩
    rintro e w3 ⟨rfl, g3⟩
    have HB3 := Lib.hid g3
    have hs3 := g3.size
    replace NB := Lib.hid (NB.out.below g3)
    have HR3 : Hid (At w3 (w.heap.size + 1) (.cells #[.int .i64 0] 2)) := Lib.hid (At.below (show At W _ _ from HI.out.2.2.1) g3)
    have HT3 : Hid (At w3 (w.heap.size + 1 + 1) (.cells #[.int .i64 (sumOf (pasF zs (xq, yq)) pre)] 2)) := Lib.hid (At.below (show At W _ _ from HI.out.2.2.2.1) g3)
    have HQ3 : Hid (At w3 w.heap.size (.cells #[.int .i64 xq, .int .i64 yq] 39)) := Lib.hid (At.below (show At W _ _ from HI.out.2.1) g3)
    clear g3 c0 c1 c2 c3 p0 p1 p2 p3
    obtain ⟨c0, _, c1, _, c2, _, c3, _⟩ := cells4_of NB.out
    obtain ⟨p0, p1, p2, p3⟩ := cells2_of HQ3.out
    have r0 := (show Boxed w3 (w.heap.size + 1) 2 (.int .i64 0) from HR3.out).cell
    have r1 := (show Boxed w3 (w.heap.size + 1) 2 (.int .i64 0) from HR3.out).frozen
    have t0 := (show Boxed w3 (w.heap.size + 1 + 1) 2 (.int .i64 (sumOf (pasF zs (xq, yq)) pre)) from HT3.out).cell
    have t1 := (show Boxed w3 (w.heap.size + 1 + 1) 2 (.int .i64 (sumOf (pasF zs (xq, yq)) pre)) from HT3.out).frozen
    have hsz3 : w.heap.size + 1 + 1 < w3.heap.size := by omega
    have hsz4 : w.heap.size < w3.heap.size := by omega
    have hE3 : E < w3.heap.size := by omega
    generalize hob : onB xa ya xb yb xq yq = ob at *
    cases ob with
    | true =>
      gi_wp2
      have hB3 := HB3.out
      refine ⟨((KeepsOthers.of_grownBy (grown_none hB3) (fun j o e => by cases e)).trans (KeepsOthers.setCell _ _ _)).from _, rfl, (HI.out.1.trans (hB3.mono (by omega))).setCell (by simp) _, ?_, x, by simp, by rw [HO.out]; rfl⟩
      exact (show Boxed w3 (w.heap.size + 1) 2 (.int .i64 0) from HR3.out).set _
    | false =>
      have HON := Lib.hid (show offF zs (xq, yq) x = true by rw [HO.out]; rfl)
      generalize hsv : sumOf (pasF zs (xq, yq)) pre = s at *
      rw [HF.out] at hb2
      generalize hpv : pasI xa ya xb yb xq yq = v at *
      have q4 : IntKind.i64.wrap (s + v) = s + v := IntWalk.i64_in _ (by omega)
      gi_wp2
      refine wpIn_region_plan (grants_round l 0 _ _ (by kernel_rfl)) 1 [5] [.val 0 [] (.int .i64 s), .val 1 [] (.agg #[.int .i64 xa, .int .i64 ya, .int .i64 xb, .int .i64 yb]), .val 2 [] (.agg #[.int .i64 xq, .int .i64 yq]), .val 3 [] (.int .i64 v), .val 4 [] (.int .i64 (s + v))] (by kernel_rfl) (by kernel_rfl) rfl ?_
      refine plan_val (by kernel_rfl) (by kernel_rfl) (by kernel_rfl) (by go_simp) (fun w1 hw1 => ?_) ?_
      · obtain ⟨hc, hf⟩ := bcell hw1; clear hw1; go_simp; (try with_reducible rfl)
      (try simp only [Act.put, List.setIfInBounds_toArray, List.set_cons_zero, List.set_cons_succ])
      refine plan_val (by kernel_rfl) (by kernel_rfl) (by kernel_rfl) (by go_simp) (fun w1 hw1 => ?_) ?_
      · obtain ⟨hc, hf⟩ := bcell hw1; clear hw1; go_simp; (try with_reducible rfl)
      (try simp only [Act.put, List.setIfInBounds_toArray, List.set_cons_zero, List.set_cons_succ])
      refine plan_val (by kernel_rfl) (by kernel_rfl) (by kernel_rfl) (by go_simp) (fun w1 hw1 => ?_) ?_
      · obtain ⟨hc, hf⟩ := bcell hw1; clear hw1; go_simp; (try with_reducible rfl)
      (try simp only [Act.put, List.setIfInBounds_toArray, List.set_cons_zero, List.set_cons_succ])
      refine plan_call [] 95 #[.agg #[.int .i64 xa, .int .i64 ya, .int .i64 xb, .int .i64 yb], .agg #[.int .i64 xq, .int .i64 yq]] (by kernel_rfl) (by kernel_rfl) (by kernel_rfl) (by kernel_rfl) (by go_simp) (fun w1 hw1 => ?_) (fun w1 hC => ?_) ?_
      · clear hw1; go_simp; (try with_reducible rfl)
      · exact HY.out _
      (try simp only [Act.put, List.setIfInBounds_toArray, List.set_cons_zero, List.set_cons_succ])
      refine plan_val (by kernel_rfl) (by kernel_rfl) (by kernel_rfl) (by go_simp) (fun w1 hw1 => ?_) ?_
      · obtain ⟨hc, hf⟩ := bcell hw1; clear hw1; go_simp; (try with_reducible rfl)
      (try simp only [Act.put, List.setIfInBounds_toArray, List.set_cons_zero, List.set_cons_succ])
      refine plan_tail (fun _ => trivial) (by kernel_rfl) (by kernel_rfl) rfl (fun w4 hC => ?_)
      have HB4 := Lib.hid hC.1
      obtain ⟨k2, q2⟩ := bcell hC.1
      have t0' := (k2 _ 0 hsz3).trans t0
      have t1' := (q2 _ 0 hsz3).trans t1
      clear hC k2 q2 t0 t1
      gi_wp2
      have hB3 := HB3.out
      have hB4 := bseq hB3 HB4.out
      have hk3 : ∀ {j : Nat} {o : Obj}, At w3 j o → w4.heap[j]? = some o := fun {j o} h => (HB4.out.block j (heap_lt h)).trans h
      refine ⟨((KeepsOthers.of_grownBy (grown_none hB4) (fun j o e => by cases e)).trans (KeepsOthers.setCell _ _ _)).from _, (Keep2.of_below hB4 (by omega) (by omega)).trans (Keep2.setCell (by show w.heap.size + 1 + 1 ≠ b; omega) (by show w.heap.size + 1 + 1 ≠ B; omega) _), (HI.out.1.trans (hB4.mono (by omega))).setCell (by show w.heap.size ≤ w.heap.size + 1 + 1; omega) _, ?_, ?_, ?_, ?_⟩
      · rw [Below.heap_setCell _ _ _ _ (by show w.heap.size ≠ w.heap.size + 1 + 1; omega)]; exact hk3 HQ3.out
      · rw [Below.heap_setCell _ _ _ _ (by show w.heap.size + 1 ≠ w.heap.size + 1 + 1; omega)]; exact hk3 HR3.out
      · rw [HS.out, HF.out]
        exact (show Boxed w4 (w.heap.size + 1 + 1) 2 (.int .i64 s) from hk3 HT3.out).set _
      · intro k hk
        rcases List.mem_append.1 hk with h | h
        · exact HI.out.2.2.2.2 k h
        · obtain rfl : k = x := by simpa using h
          exact HON.out
  · intro D W hD hI hd
    have HI := Lib.hid hI
    have r0 := (show Boxed W (w.heap.size + 1) 2 (.int .i64 0) from hI.2.2.1).cell
    have r1 := (show Boxed W (w.heap.size + 1) 2 (.int .i64 0) from hI.2.2.1).frozen
    have t0 := (show Boxed W (w.heap.size + 1 + 1) 2 (.int .i64 (sumOf (pasF zs (xq, yq)) (List.range len))) from hI.2.2.2.1).cell
    have hsz : w.heap.size + 1 + 1 < W.heap.size := heap_lt hI.2.2.2.1
    clear hI
    have HE := Lib.hid (show insI zs (xq, yq) = if sumTo (pasF zs (xq, yq)) len = 0 then -1 else 1 by
      unfold insI
      rw [← HZ.out, allTo_ok (fun j hj => HI.out.2.2.2.2 j (List.mem_range.2 hj)), if_pos rfl])
    have hsr : sumOf (pasF zs (xq, yq)) (List.range len) = sumTo (pasF zs (xq, yq)) len := sumOf_range _ _
    rw [hsr] at t0
    generalize sumTo (pasF zs (xq, yq)) len = s at *
    have hDs : w.heap.size + 1 ≠ D := by omega
    by_cases hs : s = 0
    · subst hs
      have hb0 : Boxed (W.setCell ⟨w.heap.size + 1, 0, none⟩ (.int .i64 (-1))) (w.heap.size + 1) 2 (.int .i64 (-1)) := (show Boxed W (w.heap.size + 1) 2 (.int .i64 0) from HI.out.2.2.1).set _
      have hd1 : (W.setCell ⟨w.heap.size + 1, 0, none⟩ (.int .i64 (-1))).heap[D]? = some (.deferred (some [])) := (Below.heap_setCell _ _ _ _ (by show D ≠ w.heap.size + 1; omega)).trans hd
      have q0 : ((W.setCell ⟨w.heap.size + 1, 0, none⟩ (.int .i64 (-1))).putObj D (.deferred none)).cell? ⟨w.heap.size + 1, 0, none⟩ = some (.int .i64 (-1)) := (World.cell?_of_block (a := ⟨w.heap.size + 1, 0, none⟩) (World.putObj_heap_other hDs)).trans hb0.cell
      clear hb0
      have HQ0 := Lib.hid q0
      clear q0
      gi_wp2
      refine ⟨by simp, .inl ⟨_, _, rfl, run_takeDeferred hd1, ?_⟩⟩
      have q0 := HQ0.out
      exact ⟨.int .i64 (-1), by simp [results, Try.results50, go_sem, q0], by rw [HE.out]; rfl, belowK_put (HI.out.1.setCell (by show w.heap.size ≤ w.heap.size + 1; omega) _) (by omega) hd1⟩
    · have hs' : (s == 0) = false := by simpa using hs
      have HS0 := Lib.hid hs
      have hb0 : Boxed (W.setCell ⟨w.heap.size + 1, 0, none⟩ (.int .i64 1)) (w.heap.size + 1) 2 (.int .i64 1) := (show Boxed W (w.heap.size + 1) 2 (.int .i64 0) from HI.out.2.2.1).set _
      have hd1 : (W.setCell ⟨w.heap.size + 1, 0, none⟩ (.int .i64 1)).heap[D]? = some (.deferred (some [])) := (Below.heap_setCell _ _ _ _ (by show D ≠ w.heap.size + 1; omega)).trans hd
      have q0 : ((W.setCell ⟨w.heap.size + 1, 0, none⟩ (.int .i64 1)).putObj D (.deferred none)).cell? ⟨w.heap.size + 1, 0, none⟩ = some (.int .i64 1) := (World.cell?_of_block (a := ⟨w.heap.size + 1, 0, none⟩) (World.putObj_heap_other hDs)).trans hb0.cell
      clear hb0 hs
      have HQ0 := Lib.hid q0
      clear q0
      gi_wp2
      refine ⟨by simp, .inl ⟨_, _, rfl, run_takeDeferred hd1, ?_⟩⟩
      have q0 := HQ0.out
      exact ⟨.int .i64 1, by simp [results, Try.results50, go_sem, q0], by rw [HE.out, if_neg HS0.out], belowK_put (HI.out.1.setCell (by show w.heap.size ≤ w.heap.size + 1; omega) _) (by omega) hd1⟩
  · intro D c k W hD hk hx hd
    obtain ⟨rfl, hx⟩ := hx
    have hDs : w.heap.size + 1 ≠ D := by omega
    have q0 : (W.putObj D (.deferred none)).cell? ⟨w.heap.size + 1, 0, none⟩ = some (.int .i64 0) := (World.cell?_of_block (a := ⟨w.heap.size + 1, 0, none⟩) (World.putObj_heap_other hDs)).trans (show Boxed W (w.heap.size + 1) 2 (.int .i64 0) from hx.2.1).cell
    have HQ0 := Lib.hid q0
    have HX := Lib.hid hx
    clear hx q0
    gi_wp2
    refine ⟨by simp, .inl ⟨_, _, rfl, run_takeDeferred hd, ?_⟩⟩
    have q0 := HQ0.out
    obtain ⟨j, hj, ho⟩ := HX.out.2.2
    exact ⟨.int .i64 0, by simp [results, Try.results50, go_sem, q0], by unfold insI; rw [allTo_bad (k := j) (by have := List.mem_range.1 hj; have := HZ.out; omega) ho]; rfl, belowK_put HX.out.1 (by omega) hd⟩
end Go.Proofs.Ythflkkkpggaalaa
