/- The placement with a text: spec and impl. -/
import Derived.Test.YtmfchcaidfloaaaDoorNst5
import Derived.Test.YtmfchcaidfloaaaDoorReadLaw
import Derived.Test.YtmfchcaidfloaaaDoorFlPlacement
import Derived.BigRegion
namespace Go.Proofs.YtmfchcaidfloaaaDoor
open Seq2 Go.ChangeShapes Go.WideShapes Go.ChangeAt Go.RowKit
set_option linter.unusedVariables false
set_option linter.unusedSimpArgs false

def pmW (z : Pm) : Value := .agg #[.int .i64 z.1, .int .i64 z.2.1, .int .i64 z.2.2.1, .int .i64 z.2.2.2.1, .int .i64 z.2.2.2.2]
def rpC (b : Bool) (zs : List Int) : Pm × Bool := if b then (match zs with | [f, l, x, y, t] => if pmB (f, l, x, y, t) then ((f, l, x, y, t), true) else (pm0, false) | _ => (pm0, false)) else (pm0, false)
def rpR (s : ByteArray) : Pm × Bool := rpC (rlB s.data.toList) (rlL s.data.toList)
theorem len_five {α : Type} {l : List α} (h : l.length = 5) : ∃ a b c d e, l = [a, b, c, d, e] := by
  match l, h with
  | [a, b, c, d, e], _ => exact ⟨a, b, c, d, e, rfl⟩
theorem rpC_no {b : Bool} {zs : List Int} (h : ¬ (b = true ∧ zs.length = 5)) : rpC b zs = (pm0, false) := by
  cases b with
  | false => rfl
  | true =>
    unfold rpC
    rw [if_pos rfl]
    split
    · exact absurd ⟨rfl, rfl⟩ h
    · rfl
set_option maxRecDepth 100000 in
set_option maxHeartbeats 8000000 in
theorem rp_spec (s : ByteArray) (w : World) (hs : s.size ≤ 1048576) : Calls Tryd.prog 10 #[.string s] w fun e w' => e = .returned (.tuple #[pmW (rpR s).1, .bool (rpR s).2]) ∧ Below w.heap.size w w' := by
  have HRL := Lib.hid (fun w1 (hb : Below w.heap.size w w1) => show Calls Tryd.prog 30 #[.string s] w1 (RdPost s.data.toList w1.heap.size w1) from readList_spec s w1 hs)
  have HZ := Lib.hid (World.alloc_heap_new w (.cells #[.int .i64 0, .int .i64 0, .int .i64 0, .int .i64 0, .int .i64 0] 25))
  have HA := Lib.hid (one_alloc (w := w) (.cells #[.int .i64 0, .int .i64 0, .int .i64 0, .int .i64 0, .int .i64 0] 25))
  obtain ⟨zs, hzs⟩ : ∃ zs, rlL s.data.toList = zs := ⟨_, rfl⟩
  obtain ⟨ob, hob⟩ : ∃ b, rlB s.data.toList = b := ⟨_, rfl⟩
  have HLE := Lib.hid (show zs.length ≤ 2000000 by rw [← hzs]; have := rl_len s.data.toList; omega)
  have HR := Lib.hid (show rpR s = rpC ob zs by unfold rpR; rw [hzs, hob])
  have HZS := Lib.hid hzs
  have HOB := Lib.hid hob
  rw [HR.out]
  clear hs hzs hob
  by_cases hok : ob = true ∧ zs.length = 5
  rotate_left
  · have HC := Lib.hid (show rpC ob zs = (pm0, false) from rpC_no hok)
    rw [HC.out]
    rw [show pmW pm0 = .agg #[.int .i64 0, .int .i64 0, .int .i64 0, .int .i64 0, .int .i64 0] from rfl]
    cases ob with
    | false =>
      go_enter Tryd.func10, Tryd.ntmps10
      go_wp2_with fail
      refine (HRL.out _ HA.out).mono ?_
      intro e w1 hp
      obtain ⟨v, rfl, ho, g1⟩ := rdPost_zs hp HZS.out HOB.out
      have HG := Lib.hid (bseq HA.out g1)
      have hz := (g1.block _ (blk_lt HZ.out)).trans HZ.out
      clear hp ho g1
      obtain ⟨hzl, c0, f0, c1, f1, c2, f2, c3, f3, c4, f4⟩ := cells5_of hz
      go_wp2
      have hq := st5 (x0 := .int .i64 0) (x1 := .int .i64 0) (x2 := .int .i64 0) (x3 := .int .i64 0) (x4 := .int .i64 0) hz
      have hbl := bel5 (x0 := .int .i64 0) (x1 := .int .i64 0) (x2 := .int .i64 0) (x3 := .int .i64 0) (x4 := .int .i64 0) (p := w.heap.size) HG.out (Nat.le_refl _)
      obtain ⟨_, q0, _, q1, _, q2, _, q3, _, q4, _⟩ := cells5_of hq
      refine bodyPost_ret (v := .tuple #[.agg #[.int .i64 0, .int .i64 0, .int .i64 0, .int .i64 0, .int .i64 0], .bool false]) ?_ rfl ⟨rfl, hbl⟩
      clear hq hbl c0 f0 c1 f1 c2 f2 c3 f3 c4 f4
      generalize World.setCell _ _ _ = W at *
      simp [results, Tryd.results10, go_sem, q0, q1, q2, q3, q4]
    | true =>
      have hne : ¬ zs.length = 5 := fun h => hok ⟨rfl, h⟩
      have HNE := Lib.hid (show ((zs.length : Int) != 5) = true by simp; omega)
      go_enter Tryd.func10, Tryd.ntmps10
      go_wp2_with fail
      refine (HRL.out _ HA.out).mono ?_
      intro e w1 hp
      obtain ⟨v, rfl, ho, g1⟩ := rdPost_zs hp HZS.out HOB.out
      have HG := Lib.hid (bseq HA.out g1)
      have hz := (g1.block _ (blk_lt HZ.out)).trans HZ.out
      obtain ⟨ao, cap, rfl, _⟩ := own_view ho
      have hne2 := HNE.out
      clear hp ho g1 hne
      obtain ⟨hzl, c0, f0, c1, f1, c2, f2, c3, f3, c4, f4⟩ := cells5_of hz
      go_wp2
      have hq := st5 (x0 := .int .i64 0) (x1 := .int .i64 0) (x2 := .int .i64 0) (x3 := .int .i64 0) (x4 := .int .i64 0) hz
      have hbl := bel5 (x0 := .int .i64 0) (x1 := .int .i64 0) (x2 := .int .i64 0) (x3 := .int .i64 0) (x4 := .int .i64 0) (p := w.heap.size) HG.out (Nat.le_refl _)
      obtain ⟨_, q0, _, q1, _, q2, _, q3, _, q4, _⟩ := cells5_of hq
      refine bodyPost_ret (v := .tuple #[.agg #[.int .i64 0, .int .i64 0, .int .i64 0, .int .i64 0, .int .i64 0], .bool false]) ?_ rfl ⟨rfl, hbl⟩
      clear hq hbl c0 f0 c1 f1 c2 f2 c3 f3 c4 f4
      generalize World.setCell _ _ _ = W at *
      simp [results, Tryd.results10, go_sem, q0, q1, q2, q3, q4]
  obtain ⟨rfl, h5⟩ := hok
  obtain ⟨f, l, x, y, t, rfl⟩ := len_five h5
  have HC := Lib.hid (show rpC true [f, l, x, y, t] = if pmB (f, l, x, y, t) then ((f, l, x, y, t), true) else (pm0, false) from rfl)
  clear h5
  cases hv : pmB (f, l, x, y, t) with
  | false =>
    have HC2 := Lib.hid (HC.out.trans (show _ = (pm0, false) by rw [hv]; rfl))
    rw [HC2.out]
    rw [show pmW pm0 = .agg #[.int .i64 0, .int .i64 0, .int .i64 0, .int .i64 0, .int .i64 0] from rfl]
    go_enter Tryd.func10, Tryd.ntmps10
    go_wp2_with fail
    refine (HRL.out _ HA.out).mono ?_
    intro e w1 hp
    obtain ⟨v, rfl, ho, g1⟩ := rdPost_zs hp HZS.out HOB.out
    have HG := Lib.hid (bseq HA.out g1)
    have HZ1 := Lib.hid ((g1.block _ (blk_lt HZ.out)).trans HZ.out)
    obtain ⟨g, cap, rfl, _, hgl, _⟩ := own_shape ho (by simp)
    have k0 := (ho.cellAt 0 (by simp)).trans rfl
    have k1 := (ho.cellAt 1 (by simp)).trans rfl
    have k2 := (ho.cellAt 2 (by simp)).trans rfl
    have k3 := (ho.cellAt 3 (by simp)).trans rfl
    have k4 := (ho.cellAt 4 (by simp)).trans rfl
    have HPM := Lib.hid (PmAt.box w1 f l x y t 25)
    have HBX := Lib.hid (World.alloc_heap_new w1 (.cells #[.int .i64 f, .int .i64 l, .int .i64 x, .int .i64 y, .int .i64 t] 25))
    clear hp ho g1
    simp only [List.length_cons, List.length_nil]
    go_wp2
    go_region
    have HLT := Lib.hid (show w.heap.size < w1.heap.size from blk_lt HZ1.out)
    have HPW := Lib.hid (show PmAt ((w1.alloc (.cells #[.int .i64 f, .int .i64 l, .int .i64 x, .int .i64 y, .int .i64 t] 25)).drew) w1.heap.size 0 (f, l, x, y, t) from HPM.out)
    have HBW := Lib.hid (show ((w1.alloc (.cells #[.int .i64 f, .int .i64 l, .int .i64 x, .int .i64 y, .int .i64 t] 25)).drew).heap[w1.heap.size]? = some (.cells #[.int .i64 f, .int .i64 l, .int .i64 x, .int .i64 y, .int .i64 t] 25 (0, 0)) from HBX.out)
    have HZW := Lib.hid (show ((w1.alloc (.cells #[.int .i64 f, .int .i64 l, .int .i64 x, .int .i64 y, .int .i64 t] 25)).drew).heap[w.heap.size]? = some (.cells #[.int .i64 0, .int .i64 0, .int .i64 0, .int .i64 0, .int .i64 0] 25 (0, 0)) from (Below.heap_alloc _ _ _ (blk_lt HZ1.out)).trans HZ1.out)
    have HGW := Lib.hid (show Below w.heap.size w ((w1.alloc (.cells #[.int .i64 f, .int .i64 l, .int .i64 x, .int .i64 y, .int .i64 t] 25)).drew) from (HG.out.alloc HG.out.size _).trans ⟨rfl, rfl, rfl, Nat.le_refl _, fun _ _ => rfl⟩)
    clear HPM HBX HZ1 HG k0 k1 k2 k3 k4 hgl
    generalize ((w1.alloc (.cells #[.int .i64 f, .int .i64 l, .int .i64 x, .int .i64 y, .int .i64 t] 25)).drew) = W at *
    generalize w1.heap.size = p at *
    go_wp2_with fail
    refine (one_pm p 0 (f, l, x, y, t) W HPW.out).mono ?_
    rintro e w2 ⟨rfl, rfl⟩
    have hz := HZW.out
    obtain ⟨hzl, c0, f0, c1, f1, c2, f2, c3, f3, c4, f4⟩ := cells5_of hz
    rw [hv]
    go_wp2
    have hq := st5 (x0 := .int .i64 0) (x1 := .int .i64 0) (x2 := .int .i64 0) (x3 := .int .i64 0) (x4 := .int .i64 0) hz
    have hbl := bel5 (x0 := .int .i64 0) (x1 := .int .i64 0) (x2 := .int .i64 0) (x3 := .int .i64 0) (x4 := .int .i64 0) (p := w.heap.size) HGW.out (Nat.le_refl _)
    obtain ⟨_, q0, _, q1, _, q2, _, q3, _, q4, _⟩ := cells5_of hq
    refine bodyPost_ret (v := .tuple #[.agg #[.int .i64 0, .int .i64 0, .int .i64 0, .int .i64 0, .int .i64 0], .bool false]) ?_ rfl ⟨rfl, hbl⟩
    clear hq hbl c0 f0 c1 f1 c2 f2 c3 f3 c4 f4
    generalize World.setCell _ _ _ = W at *
    simp [results, Tryd.results10, go_sem, q0, q1, q2, q3, q4]
  | true =>
    have HC2 := Lib.hid (HC.out.trans (show _ = ((f, l, x, y, t), true) by rw [hv]; rfl))
    rw [HC2.out]
    rw [show pmW (f, l, x, y, t) = .agg #[.int .i64 f, .int .i64 l, .int .i64 x, .int .i64 y, .int .i64 t] from rfl]
    go_enter Tryd.func10, Tryd.ntmps10
    go_wp2_with fail
    refine (HRL.out _ HA.out).mono ?_
    intro e w1 hp
    obtain ⟨v, rfl, ho, g1⟩ := rdPost_zs hp HZS.out HOB.out
    have HG := Lib.hid (bseq HA.out g1)
    have HZ1 := Lib.hid ((g1.block _ (blk_lt HZ.out)).trans HZ.out)
    obtain ⟨g, cap, rfl, _, hgl, _⟩ := own_shape ho (by simp)
    have k0 := (ho.cellAt 0 (by simp)).trans rfl
    have k1 := (ho.cellAt 1 (by simp)).trans rfl
    have k2 := (ho.cellAt 2 (by simp)).trans rfl
    have k3 := (ho.cellAt 3 (by simp)).trans rfl
    have k4 := (ho.cellAt 4 (by simp)).trans rfl
    have HPM := Lib.hid (PmAt.box w1 f l x y t 25)
    have HBX := Lib.hid (World.alloc_heap_new w1 (.cells #[.int .i64 f, .int .i64 l, .int .i64 x, .int .i64 y, .int .i64 t] 25))
    clear hp ho g1
    simp only [List.length_cons, List.length_nil]
    go_wp2
    go_region
    have HLT := Lib.hid (show w.heap.size < w1.heap.size from blk_lt HZ1.out)
    have HPW := Lib.hid (show PmAt ((w1.alloc (.cells #[.int .i64 f, .int .i64 l, .int .i64 x, .int .i64 y, .int .i64 t] 25)).drew) w1.heap.size 0 (f, l, x, y, t) from HPM.out)
    have HBW := Lib.hid (show ((w1.alloc (.cells #[.int .i64 f, .int .i64 l, .int .i64 x, .int .i64 y, .int .i64 t] 25)).drew).heap[w1.heap.size]? = some (.cells #[.int .i64 f, .int .i64 l, .int .i64 x, .int .i64 y, .int .i64 t] 25 (0, 0)) from HBX.out)
    have HZW := Lib.hid (show ((w1.alloc (.cells #[.int .i64 f, .int .i64 l, .int .i64 x, .int .i64 y, .int .i64 t] 25)).drew).heap[w.heap.size]? = some (.cells #[.int .i64 0, .int .i64 0, .int .i64 0, .int .i64 0, .int .i64 0] 25 (0, 0)) from (Below.heap_alloc _ _ _ (blk_lt HZ1.out)).trans HZ1.out)
    have HGW := Lib.hid (show Below w.heap.size w ((w1.alloc (.cells #[.int .i64 f, .int .i64 l, .int .i64 x, .int .i64 y, .int .i64 t] 25)).drew) from (HG.out.alloc HG.out.size _).trans ⟨rfl, rfl, rfl, Nat.le_refl _, fun _ _ => rfl⟩)
    clear HPM HBX HZ1 HG k0 k1 k2 k3 k4 hgl
    generalize ((w1.alloc (.cells #[.int .i64 f, .int .i64 l, .int .i64 x, .int .i64 y, .int .i64 t] 25)).drew) = W at *
    generalize w1.heap.size = p at *
    go_wp2_with fail
    refine (one_pm p 0 (f, l, x, y, t) W HPW.out).mono ?_
    rintro e w2 ⟨rfl, rfl⟩
    have hz := HZW.out
    obtain ⟨hzl, c0, f0, c1, f1, c2, f2, c3, f3, c4, f4⟩ := cells5_of hz
    rw [hv]
    obtain ⟨hpl, b0, _, b1, _, b2, _, b3, _, b4, _⟩ := cells5_of HBW.out
    go_wp2
    have hq := st5 (x0 := .int .i64 f) (x1 := .int .i64 l) (x2 := .int .i64 x) (x3 := .int .i64 y) (x4 := .int .i64 t) hz
    have hbl := bel5 (x0 := .int .i64 f) (x1 := .int .i64 l) (x2 := .int .i64 x) (x3 := .int .i64 y) (x4 := .int .i64 t) (p := w.heap.size) HGW.out (Nat.le_refl _)
    obtain ⟨_, q0, _, q1, _, q2, _, q3, _, q4, _⟩ := cells5_of hq
    refine bodyPost_ret (v := .tuple #[.agg #[.int .i64 f, .int .i64 l, .int .i64 x, .int .i64 y, .int .i64 t], .bool true]) ?_ rfl ⟨rfl, hbl⟩
    clear hq hbl b0 b1 b2 b3 b4 c0 f0 c1 f1 c2 f2 c3 f3 c4 f4
    generalize World.setCell _ _ _ = W at *
    simp [results, Tryd.results10, go_sem, q0, q1, q2, q3, q4]
set_option maxRecDepth 100000 in
set_option maxHeartbeats 8000000 in
theorem rp_impl (s : ByteArray) (w : World) (hs : s.size ≤ 1048576) (hN : NumOk w) (hM : MaxOk w) : Calls Tryd.prog 11 #[.string s] w fun e w' => e = .returned (.tuple #[pmW (rpR s).1, .bool (rpR s).2]) ∧ Below w.heap.size w w' := by
  have HRL := Lib.hid (fun w1 (hb : Below w.heap.size w w1) => show Calls Tryd.prog 31 #[.string s] w1 (RdPost s.data.toList w1.heap.size w1) from readList_impl s w1 hs (hN.below hb (Nat.le_refl _)) (hM.below hb (Nat.le_refl _)))
  have HZ := Lib.hid (World.alloc_heap_new w (.cells #[.int .i64 0, .int .i64 0, .int .i64 0, .int .i64 0, .int .i64 0] 25))
  have HA := Lib.hid (one_alloc (w := w) (.cells #[.int .i64 0, .int .i64 0, .int .i64 0, .int .i64 0, .int .i64 0] 25))
  obtain ⟨zs, hzs⟩ : ∃ zs, rlL s.data.toList = zs := ⟨_, rfl⟩
  obtain ⟨ob, hob⟩ : ∃ b, rlB s.data.toList = b := ⟨_, rfl⟩
  have HLE := Lib.hid (show zs.length ≤ 2000000 by rw [← hzs]; have := rl_len s.data.toList; omega)
  have HR := Lib.hid (show rpR s = rpC ob zs by unfold rpR; rw [hzs, hob])
  have HZS := Lib.hid hzs
  have HOB := Lib.hid hob
  rw [HR.out]
  clear hs hzs hob
  by_cases hok : ob = true ∧ zs.length = 5
  rotate_left
  · have HC := Lib.hid (show rpC ob zs = (pm0, false) from rpC_no hok)
    rw [HC.out]
    rw [show pmW pm0 = .agg #[.int .i64 0, .int .i64 0, .int .i64 0, .int .i64 0, .int .i64 0] from rfl]
    cases ob with
    | false =>
      go_enter Tryd.func11, Tryd.ntmps11
      go_wp2_with fail
      refine (HRL.out _ HA.out).mono ?_
      intro e w1 hp
      obtain ⟨v, rfl, ho, g1⟩ := rdPost_zs hp HZS.out HOB.out
      have HG := Lib.hid (bseq HA.out g1)
      have hz := (g1.block _ (blk_lt HZ.out)).trans HZ.out
      clear hp ho g1
      obtain ⟨hzl, c0, f0, c1, f1, c2, f2, c3, f3, c4, f4⟩ := cells5_of hz
      go_wp2
      have hq := st5 (x0 := .int .i64 0) (x1 := .int .i64 0) (x2 := .int .i64 0) (x3 := .int .i64 0) (x4 := .int .i64 0) hz
      have hbl := bel5 (x0 := .int .i64 0) (x1 := .int .i64 0) (x2 := .int .i64 0) (x3 := .int .i64 0) (x4 := .int .i64 0) (p := w.heap.size) HG.out (Nat.le_refl _)
      obtain ⟨_, q0, _, q1, _, q2, _, q3, _, q4, _⟩ := cells5_of hq
      refine bodyPost_ret (v := .tuple #[.agg #[.int .i64 0, .int .i64 0, .int .i64 0, .int .i64 0, .int .i64 0], .bool false]) ?_ rfl ⟨rfl, hbl⟩
      clear hq hbl c0 f0 c1 f1 c2 f2 c3 f3 c4 f4
      generalize World.setCell _ _ _ = W at *
      simp [results, Tryd.results11, go_sem, q0, q1, q2, q3, q4]
    | true =>
      have hne : ¬ zs.length = 5 := fun h => hok ⟨rfl, h⟩
      have HNE := Lib.hid (show ((zs.length : Int) != 5) = true by simp; omega)
      go_enter Tryd.func11, Tryd.ntmps11
      go_wp2_with fail
      refine (HRL.out _ HA.out).mono ?_
      intro e w1 hp
      obtain ⟨v, rfl, ho, g1⟩ := rdPost_zs hp HZS.out HOB.out
      have HG := Lib.hid (bseq HA.out g1)
      have hz := (g1.block _ (blk_lt HZ.out)).trans HZ.out
      obtain ⟨ao, cap, rfl, _⟩ := own_view ho
      have hne2 := HNE.out
      clear hp ho g1 hne
      obtain ⟨hzl, c0, f0, c1, f1, c2, f2, c3, f3, c4, f4⟩ := cells5_of hz
      go_wp2
      have hq := st5 (x0 := .int .i64 0) (x1 := .int .i64 0) (x2 := .int .i64 0) (x3 := .int .i64 0) (x4 := .int .i64 0) hz
      have hbl := bel5 (x0 := .int .i64 0) (x1 := .int .i64 0) (x2 := .int .i64 0) (x3 := .int .i64 0) (x4 := .int .i64 0) (p := w.heap.size) HG.out (Nat.le_refl _)
      obtain ⟨_, q0, _, q1, _, q2, _, q3, _, q4, _⟩ := cells5_of hq
      refine bodyPost_ret (v := .tuple #[.agg #[.int .i64 0, .int .i64 0, .int .i64 0, .int .i64 0, .int .i64 0], .bool false]) ?_ rfl ⟨rfl, hbl⟩
      clear hq hbl c0 f0 c1 f1 c2 f2 c3 f3 c4 f4
      generalize World.setCell _ _ _ = W at *
      simp [results, Tryd.results11, go_sem, q0, q1, q2, q3, q4]
  obtain ⟨rfl, h5⟩ := hok
  obtain ⟨f, l, x, y, t, rfl⟩ := len_five h5
  have HC := Lib.hid (show rpC true [f, l, x, y, t] = if pmB (f, l, x, y, t) then ((f, l, x, y, t), true) else (pm0, false) from rfl)
  clear h5
  cases hv : pmB (f, l, x, y, t) with
  | false =>
    have HC2 := Lib.hid (HC.out.trans (show _ = (pm0, false) by rw [hv]; rfl))
    rw [HC2.out]
    rw [show pmW pm0 = .agg #[.int .i64 0, .int .i64 0, .int .i64 0, .int .i64 0, .int .i64 0] from rfl]
    go_enter Tryd.func11, Tryd.ntmps11
    go_wp2_with fail
    refine (HRL.out _ HA.out).mono ?_
    intro e w1 hp
    obtain ⟨v, rfl, ho, g1⟩ := rdPost_zs hp HZS.out HOB.out
    have HG := Lib.hid (bseq HA.out g1)
    have HZ1 := Lib.hid ((g1.block _ (blk_lt HZ.out)).trans HZ.out)
    obtain ⟨g, cap, rfl, _, hgl, _⟩ := own_shape ho (by simp)
    have k0 := (ho.cellAt 0 (by simp)).trans rfl
    have k1 := (ho.cellAt 1 (by simp)).trans rfl
    have k2 := (ho.cellAt 2 (by simp)).trans rfl
    have k3 := (ho.cellAt 3 (by simp)).trans rfl
    have k4 := (ho.cellAt 4 (by simp)).trans rfl
    have HPM := Lib.hid (PmAt.box w1 f l x y t 25)
    have HBX := Lib.hid (World.alloc_heap_new w1 (.cells #[.int .i64 f, .int .i64 l, .int .i64 x, .int .i64 y, .int .i64 t] 25))
    clear hp ho g1
    simp only [List.length_cons, List.length_nil]
    go_wp2
    go_region
    have HLT := Lib.hid (show w.heap.size < w1.heap.size from blk_lt HZ1.out)
    have HPW := Lib.hid (show PmAt ((w1.alloc (.cells #[.int .i64 f, .int .i64 l, .int .i64 x, .int .i64 y, .int .i64 t] 25)).drew) w1.heap.size 0 (f, l, x, y, t) from HPM.out)
    have HBW := Lib.hid (show ((w1.alloc (.cells #[.int .i64 f, .int .i64 l, .int .i64 x, .int .i64 y, .int .i64 t] 25)).drew).heap[w1.heap.size]? = some (.cells #[.int .i64 f, .int .i64 l, .int .i64 x, .int .i64 y, .int .i64 t] 25 (0, 0)) from HBX.out)
    have HZW := Lib.hid (show ((w1.alloc (.cells #[.int .i64 f, .int .i64 l, .int .i64 x, .int .i64 y, .int .i64 t] 25)).drew).heap[w.heap.size]? = some (.cells #[.int .i64 0, .int .i64 0, .int .i64 0, .int .i64 0, .int .i64 0] 25 (0, 0)) from (Below.heap_alloc _ _ _ (blk_lt HZ1.out)).trans HZ1.out)
    have HGW := Lib.hid (show Below w.heap.size w ((w1.alloc (.cells #[.int .i64 f, .int .i64 l, .int .i64 x, .int .i64 y, .int .i64 t] 25)).drew) from (HG.out.alloc HG.out.size _).trans ⟨rfl, rfl, rfl, Nat.le_refl _, fun _ _ => rfl⟩)
    clear HPM HBX HZ1 HG k0 k1 k2 k3 k4 hgl
    generalize ((w1.alloc (.cells #[.int .i64 f, .int .i64 l, .int .i64 x, .int .i64 y, .int .i64 t] 25)).drew) = W at *
    generalize w1.heap.size = p at *
    obtain ⟨hpl, b0, _, b1, _, b2, _, b3, _, b4, _⟩ := cells5_of HBW.out
    go_wp2_with fail
    refine (valid_pm f l x y t W).mono ?_
    rintro e w2 ⟨rfl, g2⟩
    replace HBW := Lib.hid ((g2.block _ (blk_lt HBW.out)).trans HBW.out)
    replace HZW := Lib.hid ((g2.block _ (blk_lt HZW.out)).trans HZW.out)
    replace HGW := Lib.hid (bseq HGW.out g2)
    clear g2 hpl b0 b1 b2 b3 b4 HPW
    have hz := HZW.out
    obtain ⟨hzl, c0, f0, c1, f1, c2, f2, c3, f3, c4, f4⟩ := cells5_of hz
    rw [hv]
    go_wp2
    have hq := st5 (x0 := .int .i64 0) (x1 := .int .i64 0) (x2 := .int .i64 0) (x3 := .int .i64 0) (x4 := .int .i64 0) hz
    have hbl := bel5 (x0 := .int .i64 0) (x1 := .int .i64 0) (x2 := .int .i64 0) (x3 := .int .i64 0) (x4 := .int .i64 0) (p := w.heap.size) HGW.out (Nat.le_refl _)
    obtain ⟨_, q0, _, q1, _, q2, _, q3, _, q4, _⟩ := cells5_of hq
    refine bodyPost_ret (v := .tuple #[.agg #[.int .i64 0, .int .i64 0, .int .i64 0, .int .i64 0, .int .i64 0], .bool false]) ?_ rfl ⟨rfl, hbl⟩
    clear hq hbl c0 f0 c1 f1 c2 f2 c3 f3 c4 f4
    generalize World.setCell _ _ _ = W at *
    simp [results, Tryd.results11, go_sem, q0, q1, q2, q3, q4]
  | true =>
    have HC2 := Lib.hid (HC.out.trans (show _ = ((f, l, x, y, t), true) by rw [hv]; rfl))
    rw [HC2.out]
    rw [show pmW (f, l, x, y, t) = .agg #[.int .i64 f, .int .i64 l, .int .i64 x, .int .i64 y, .int .i64 t] from rfl]
    go_enter Tryd.func11, Tryd.ntmps11
    go_wp2_with fail
    refine (HRL.out _ HA.out).mono ?_
    intro e w1 hp
    obtain ⟨v, rfl, ho, g1⟩ := rdPost_zs hp HZS.out HOB.out
    have HG := Lib.hid (bseq HA.out g1)
    have HZ1 := Lib.hid ((g1.block _ (blk_lt HZ.out)).trans HZ.out)
    obtain ⟨g, cap, rfl, _, hgl, _⟩ := own_shape ho (by simp)
    have k0 := (ho.cellAt 0 (by simp)).trans rfl
    have k1 := (ho.cellAt 1 (by simp)).trans rfl
    have k2 := (ho.cellAt 2 (by simp)).trans rfl
    have k3 := (ho.cellAt 3 (by simp)).trans rfl
    have k4 := (ho.cellAt 4 (by simp)).trans rfl
    have HPM := Lib.hid (PmAt.box w1 f l x y t 25)
    have HBX := Lib.hid (World.alloc_heap_new w1 (.cells #[.int .i64 f, .int .i64 l, .int .i64 x, .int .i64 y, .int .i64 t] 25))
    clear hp ho g1
    simp only [List.length_cons, List.length_nil]
    go_wp2
    go_region
    have HLT := Lib.hid (show w.heap.size < w1.heap.size from blk_lt HZ1.out)
    have HPW := Lib.hid (show PmAt ((w1.alloc (.cells #[.int .i64 f, .int .i64 l, .int .i64 x, .int .i64 y, .int .i64 t] 25)).drew) w1.heap.size 0 (f, l, x, y, t) from HPM.out)
    have HBW := Lib.hid (show ((w1.alloc (.cells #[.int .i64 f, .int .i64 l, .int .i64 x, .int .i64 y, .int .i64 t] 25)).drew).heap[w1.heap.size]? = some (.cells #[.int .i64 f, .int .i64 l, .int .i64 x, .int .i64 y, .int .i64 t] 25 (0, 0)) from HBX.out)
    have HZW := Lib.hid (show ((w1.alloc (.cells #[.int .i64 f, .int .i64 l, .int .i64 x, .int .i64 y, .int .i64 t] 25)).drew).heap[w.heap.size]? = some (.cells #[.int .i64 0, .int .i64 0, .int .i64 0, .int .i64 0, .int .i64 0] 25 (0, 0)) from (Below.heap_alloc _ _ _ (blk_lt HZ1.out)).trans HZ1.out)
    have HGW := Lib.hid (show Below w.heap.size w ((w1.alloc (.cells #[.int .i64 f, .int .i64 l, .int .i64 x, .int .i64 y, .int .i64 t] 25)).drew) from (HG.out.alloc HG.out.size _).trans ⟨rfl, rfl, rfl, Nat.le_refl _, fun _ _ => rfl⟩)
    clear HPM HBX HZ1 HG k0 k1 k2 k3 k4 hgl
    generalize ((w1.alloc (.cells #[.int .i64 f, .int .i64 l, .int .i64 x, .int .i64 y, .int .i64 t] 25)).drew) = W at *
    generalize w1.heap.size = p at *
    obtain ⟨hpl, b0, _, b1, _, b2, _, b3, _, b4, _⟩ := cells5_of HBW.out
    go_wp2_with fail
    refine (valid_pm f l x y t W).mono ?_
    rintro e w2 ⟨rfl, g2⟩
    replace HBW := Lib.hid ((g2.block _ (blk_lt HBW.out)).trans HBW.out)
    replace HZW := Lib.hid ((g2.block _ (blk_lt HZW.out)).trans HZW.out)
    replace HGW := Lib.hid (bseq HGW.out g2)
    clear g2 hpl b0 b1 b2 b3 b4 HPW
    have hz := HZW.out
    obtain ⟨hzl, c0, f0, c1, f1, c2, f2, c3, f3, c4, f4⟩ := cells5_of hz
    rw [hv]
    obtain ⟨hpl, b0, _, b1, _, b2, _, b3, _, b4, _⟩ := cells5_of HBW.out
    go_wp2
    have hq := st5 (x0 := .int .i64 f) (x1 := .int .i64 l) (x2 := .int .i64 x) (x3 := .int .i64 y) (x4 := .int .i64 t) hz
    have hbl := bel5 (x0 := .int .i64 f) (x1 := .int .i64 l) (x2 := .int .i64 x) (x3 := .int .i64 y) (x4 := .int .i64 t) (p := w.heap.size) HGW.out (Nat.le_refl _)
    obtain ⟨_, q0, _, q1, _, q2, _, q3, _, q4, _⟩ := cells5_of hq
    refine bodyPost_ret (v := .tuple #[.agg #[.int .i64 f, .int .i64 l, .int .i64 x, .int .i64 y, .int .i64 t], .bool true]) ?_ rfl ⟨rfl, hbl⟩
    clear hq hbl b0 b1 b2 b3 b4 c0 f0 c1 f1 c2 f2 c3 f3 c4 f4
    generalize World.setCell _ _ _ = W at *
    simp [results, Tryd.results11, go_sem, q0, q1, q2, q3, q4]
end Go.Proofs.YtmfchcaidfloaaaDoor
