/- The text of a veneer: spec and impl. -/
import Derived.Test.YthocpiklbcahgaaDoorVen6
import Derived.Test.YthocpiklbcahgaaDoorK14
import Derived.Test.YthocpiklbcahgaaDoorK15
namespace Go.Proofs.YthocpiklbcahgaaDoor
open Seq2 Go.ChangeShapes Go.WideShapes Go.ChangeAt Go.RowKit
set_option linter.unusedVariables false
set_option linter.unusedSimpArgs false

def vtL (s : ByteArray) (a b : Int) : List UInt8 := s.data.toList ++ 32 :: (Lib.itoa a ++ 32 :: Lib.itoa b)
def vtT (s : ByteArray) (a b : Int) : List UInt8 := if venB s a b then vtL s a b else []
theorem tb_self (s : ByteArray) : tb s.data.toList = s := by unfold tb; simp
theorem spRow_len (k : Nat) : (spRow k).1.length ≤ 8 := by
  by_cases h : k < 10
  · match k, h with
    | 0, _ => decide
    | 1, _ => decide
    | 2, _ => decide
    | 3, _ => decide
    | 4, _ => decide
    | 5, _ => decide
    | 6, _ => decide
    | 7, _ => decide
    | 8, _ => decide
    | 9, _ => decide
  · unfold spRow
    rw [List.getD_eq_getElem?_getD, List.getElem?_eq_none (by show 10 ≤ k; omega)]
    simp
theorem ix_name {nm : ByteArray} (h : ixN nm < 10) : nm.data.toList = (spRow (ixN nm)).1 := by
  unfold ixN at h
  cases hf : (List.range 10).find? (eqN nm) with
  | none => rw [hf] at h; simp at h
  | some k =>
    have he := List.find?_some hf
    have : ixN nm = k := by unfold ixN; rw [hf]; rfl
    rw [this]
    unfold eqN at he
    rw [ByteArray.toList_eq, ByteArray.toList_eq] at he
    have := eq_of_beq he
    rw [← this]; simp [spN]
theorem ven_len {s : ByteArray} {a b : Int} (h : venB s a b = true) : s.data.toList.length ≤ 8 := by
  rw [ix_name (venB_ok h).1]; exact spRow_len _
theorem add_bl (l : List UInt8) (w : World) (h : l.length + 1 ≤ 1048576) : (Op.stringOp .add (tb l) ⟨#[32]⟩).run Tryd.prog w = .ok (.string (tb (l ++ [32]))) w := add_tb l [32] w (by simpa using h)
theorem dec_tbV (n : Int) (w : World) (h1 : -9223372036854775808 ≤ n) (h2 : n ≤ 9223372036854775807) (ht : TabOk w) : Calls Tryd.prog 66 #[.int .i64 n] w fun e w' => e = .returned (.string (tb (Lib.itoa n))) ∧ Below w.heap.size w w' := decimal_impl n w h1 h2 ht
set_option maxRecDepth 100000 in
set_option maxHeartbeats 4000000 in
theorem vtext_at (q o : Nat) (s : ByteArray) (a b : Int) (w : World) (hv : VC w q o s a b) (hB : venB s a b = true) : Calls Tryd.prog 105 #[.pointer (some ⟨q, o, none⟩)] w fun e w' => e = .returned (.string (tb (vtL s a b))) ∧ Below w.heap.size w w' := by
  obtain ⟨_, a0, a1, b0, b1⟩ := venB_ok hB
  have hl := ven_len hB
  have HL := Lib.hid (show vtL s a b = s.data.toList ++ 32 :: (Lib.itoa a ++ 32 :: Lib.itoa b) from rfl)
  rw [HL.out]
  obtain ⟨l, hs⟩ : ∃ l, s.data.toList = l := ⟨_, rfl⟩
  have hst : s = tb l := by rw [← hs, tb_self]
  rw [hs] at hl ⊢
  rw [hst] at hv
  obtain ⟨hq, v0, v1, v2⟩ := hv
  have hx := itoa_len a (by omega) (by omega)
  have hy := itoa_len b (by omega) (by omega)
  have ha1 := fun w => add_bl l w (by omega)
  have ha2 : ∀ w, (Op.stringOp .add (tb (l ++ [32])) (tb (Lib.itoa a))).run Tryd.prog w = .ok (.string (tb (l ++ 32 :: Lib.itoa a))) w := fun w => by have h := add_tb (l ++ [32]) (Lib.itoa a) w (by simp; omega); simpa using h
  have ha3 : ∀ w, (Op.stringOp .add (tb (l ++ 32 :: Lib.itoa a)) ⟨#[32]⟩).run Tryd.prog w = .ok (.string (tb (l ++ 32 :: (Lib.itoa a ++ [32])))) w := fun w => by have h := add_bl (l ++ 32 :: Lib.itoa a) w (by simp; omega); simpa using h
  have ha4 : ∀ w, (Op.stringOp .add (tb (l ++ 32 :: (Lib.itoa a ++ [32]))) (tb (Lib.itoa b))).run Tryd.prog w = .ok (.string (tb (l ++ 32 :: (Lib.itoa a ++ 32 :: Lib.itoa b)))) w := fun w => by have h := add_tb (l ++ 32 :: (Lib.itoa a ++ [32])) (Lib.itoa b) w (by simp; omega); simpa using h
  clear hB hst hs
  go_enter Tryd.func105, Tryd.ntmps105
  go_wp2
  refine wp_region_below (by kernel_rfl) (by kernel_rfl) ?_
  repeat (first | (refine wq_skip ?_ ?_; (focus (go_simp; (first | done | (simp [undef]; done)))); (try simp only [Act.put, List.setIfInBounds_toArray, List.set_cons_zero, List.set_cons_succ])) | (refine wq_val ?_ ?_; (focus (go_simp; done)); apply Exists.intro; refine ⟨fun w1 hw1 => ?_, ?_⟩; (obtain ⟨hc, hf⟩ := bcell hw1; clear hw1; go_simp; (first | done | with_reducible rfl | (with_reducible exact eql2 _ _ _) | (with_reducible exact neq2 _ _ _))); (try simp only [Act.put, List.setIfInBounds_toArray, List.set_cons_zero, List.set_cons_succ])) | (refine wq_call 104 ?_ ?_; (focus (go_simp; done)); apply Exists.intro; refine ⟨fun w1 hw1 => ?_, ?_⟩; (focus (clear hw1; go_simp; (first | done | with_reducible rfl))); apply Exists.intro; refine ⟨fun w1 hw1 => ?_, ?_⟩; (focus (exact calls_below hw1 (dec_tb _ _ (by omega) (by omega)); done)); (try simp only [Act.put, List.setIfInBounds_toArray, List.set_cons_zero, List.set_cons_succ])))
  refine wq_nil ?_
  intro w1 hb1
  have HB1 := Lib.hid hb1
  clear hb1
  go_wp2
  go_ret
  exact ⟨rfl, HB1.out⟩
set_option maxRecDepth 100000 in
set_option maxHeartbeats 4000000 in
theorem vtext_impl (s : ByteArray) (a b : Int) (w : World) (ht : TabAt w) (hk : TabOk w) : Calls Tryd.prog 67 #[.agg #[.string s, .int .i64 a, .int .i64 b]] w fun e w' => e = .returned (.string (tb (vtT s a b))) ∧ Below w.heap.size w w' := by
  have HA := Lib.hid (one_alloc (w := w) (.cells #[.string s, .int .i64 a, .int .i64 b] 42))
  have HT := Lib.hid (ht.below HA.out)
  have HK := Lib.hid hk
  clear ht hk
  cases h : venB s a b with
  | false =>
    rw [show vtT s a b = [] by unfold vtT; rw [h]; rfl]
    go_enter Tryd.func67, Tryd.ntmps67
    go_wp2_with fail
    refine (valid_vimpl s a b _ HT.out).mono ?_
    rintro e w1 ⟨rfl, g1⟩
    have HG := Lib.hid (bseq HA.out g1)
    clear g1
    rw [h]
    go_wp2
    go_ret
    exact ⟨rfl, HG.out⟩
  | true =>
    obtain ⟨_, a0, a1, b0, b1⟩ := venB_ok h
    have hl := ven_len h
    have HL := Lib.hid (show vtT s a b = s.data.toList ++ 32 :: (Lib.itoa a ++ 32 :: Lib.itoa b) by unfold vtT; rw [h]; rfl)
    have HV := Lib.hid (VC.box w s a b)
    rw [HL.out]
    obtain ⟨l, hs⟩ : ∃ l, s.data.toList = l := ⟨_, rfl⟩
    have HST := Lib.hid (show s = tb l by rw [← hs, tb_self])
    rw [hs] at hl ⊢
    clear hs
    have hx := itoa_len a (by omega) (by omega)
    have hy := itoa_len b (by omega) (by omega)
    have ha1 := fun w => add_bl l w (by omega)
    have ha2 : ∀ w, (Op.stringOp .add (tb (l ++ [32])) (tb (Lib.itoa a))).run Tryd.prog w = .ok (.string (tb (l ++ 32 :: Lib.itoa a))) w := fun w => by have h := add_tb (l ++ [32]) (Lib.itoa a) w (by simp; omega); simpa using h
    have ha3 : ∀ w, (Op.stringOp .add (tb (l ++ 32 :: Lib.itoa a)) ⟨#[32]⟩).run Tryd.prog w = .ok (.string (tb (l ++ 32 :: (Lib.itoa a ++ [32])))) w := fun w => by have h := add_bl (l ++ 32 :: Lib.itoa a) w (by simp; omega); simpa using h
    have ha4 : ∀ w, (Op.stringOp .add (tb (l ++ 32 :: (Lib.itoa a ++ [32]))) (tb (Lib.itoa b))).run Tryd.prog w = .ok (.string (tb (l ++ 32 :: (Lib.itoa a ++ 32 :: Lib.itoa b)))) w := fun w => by have h := add_tb (l ++ 32 :: (Lib.itoa a ++ [32])) (Lib.itoa b) w (by simp; omega); simpa using h
    have HH := Lib.hid (And.intro ha1 (And.intro ha2 (And.intro ha3 ha4)))
    clear ha1 ha2 ha3 ha4
    go_enter Tryd.func67, Tryd.ntmps67
    go_wp2_with fail
    refine (valid_vimpl s a b _ HT.out).mono ?_
    rintro e w1 ⟨rfl, g1⟩
    have HG := Lib.hid (bseq HA.out g1)
    have HK1 := Lib.hid (HK.out.below HG.out (Nat.le_refl _))
    obtain ⟨hq, v0, v1, v2⟩ := HV.out.below g1
    rw [HST.out] at v0
    clear g1
    rw [h]
    obtain ⟨ha1, ha2, ha3, ha4⟩ := HH.out
    go_wp2
    refine wp_region_below (by kernel_rfl) (by kernel_rfl) ?_
    repeat (first | (refine wq_skip ?_ ?_; (focus (go_simp; (first | done | (simp [undef]; done)))); (try simp only [Act.put, List.setIfInBounds_toArray, List.set_cons_zero, List.set_cons_succ])) | (refine wq_val ?_ ?_; (focus (go_simp; done)); apply Exists.intro; refine ⟨fun w1 hw1 => ?_, ?_⟩; (obtain ⟨hc, hf⟩ := bcell hw1; clear hw1; go_simp; (first | done | with_reducible rfl | (with_reducible exact eql2 _ _ _) | (with_reducible exact neq2 _ _ _))); (try simp only [Act.put, List.setIfInBounds_toArray, List.set_cons_zero, List.set_cons_succ])) | (refine wq_call 66 ?_ ?_; (focus (go_simp; done)); apply Exists.intro; refine ⟨fun w1 hw1 => ?_, ?_⟩; (focus (clear hw1; go_simp; (first | done | with_reducible rfl))); apply Exists.intro; refine ⟨fun w1 hw1 => ?_, ?_⟩; (focus (exact calls_below hw1 (dec_tbV _ _ (by omega) (by omega) (HK1.out.below hw1 (Nat.le_refl _))); done)); (try simp only [Act.put, List.setIfInBounds_toArray, List.set_cons_zero, List.set_cons_succ])))
    refine wq_nil ?_
    intro w2 hb2
    have HB2 := Lib.hid (bseq HG.out hb2)
    clear hb2
    go_wp2
    go_ret
    exact ⟨rfl, HB2.out⟩
end Go.Proofs.YthocpiklbcahgaaDoor
