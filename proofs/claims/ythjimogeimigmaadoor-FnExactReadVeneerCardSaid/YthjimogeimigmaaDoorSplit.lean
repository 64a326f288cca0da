/- l01Split of spec: the pieces of a text, in a slice of the call's own. -/
import Derived.Test.YthjimogeimigmaaDoorListImpl
import Derived.Test.YthjimogeimigmaaDoorSplMath
namespace Go.Proofs.YthjimogeimigmaaDoor
open Go.ChangeShapes Go.WideShapes Go.ChangeAt Go.RowKit

def sV (p : List UInt8) : Value := .string (tb p)
theorem ext_tb (s : ByteArray) (a b : Nat) : s.extract a b = tb ((s.data.toList.drop a).take (b - a)) := Lib.extract_eq s a b

structure SplInv (c : UInt8) (s : ByteArray) (D : List (List UInt8)) (f i base : Nat) (v : Value) (w wr : World) : Prop where
  split : spl c s.data.toList = D ++ spl c (s.data.toList.drop f)
  free : c ∉ (s.data.toList.drop f).take (i - f)
  own : wr.ownsRow base 9 1 v D.length (D.map sV)
  below : Below base w wr
  le : base ≤ wr.heap.size
  few : D.length ≤ f

theorem take_step (s : ByteArray) (a k : Nat) (ha : a ≤ k) (h : k < s.size) : (s.data.toList.drop a).take (k + 1 - a) = (s.data.toList.drop a).take (k - a) ++ [s[k]] := by
  rw [show k + 1 - a = (k - a) + 1 by omega, List.take_succ_eq_append_getElem (by rw [List.length_drop]; simp; omega), List.getElem_drop]
  congr 2
  have : a + (k - a) = k := by omega
  simp only [this]
  rfl
theorem drop_split (s : ByteArray) (a k : Nat) (ha : a ≤ k) (h : k < s.size) : s.data.toList.drop a = (s.data.toList.drop a).take (k - a) ++ s[k] :: s.data.toList.drop (k + 1) := by
  have e := List.take_append_drop (k + 1 - a) (s.data.toList.drop a)
  rw [take_step s a k ha h, List.drop_drop, show a + (k + 1 - a) = k + 1 by omega] at e
  rw [List.append_assoc, List.singleton_append] at e
  exact e.symm
theorem spl_go {c : UInt8} {s : ByteArray} {D : List (List UInt8)} {f i base : Nat} {v : Value} {w wr : World} (h : SplInv c s D f i base v w wr) (hf : f ≤ i) (hi : i < s.size) (hc : s[i] ≠ c) : SplInv c s D f (i + 1) base v w wr := by
  refine ⟨h.split, ?_, h.own, h.below, h.le, h.few⟩
  rw [take_step s f i hf hi]
  intro hm
  rcases List.mem_append.1 hm with e | e
  · exact h.free e
  · exact hc (List.mem_singleton.1 e).symm
theorem spl_cut {c : UInt8} {s : ByteArray} {D : List (List UInt8)} {f i base : Nat} {v v' : Value} {w wr w1 : World} {o : Obj} (h : SplInv c s D f i base v w wr) (hf : f ≤ i) (hi : i < s.size) (hc : s[i] = c)
    (hown : w1.ownsRow base 9 1 v' (D.length + 1) (D.map sV ++ [.string (s.extract f i)])) (hg : (wr.alloc o).grownBy w1 v.ownBlock) :
    SplInv c s (D ++ [(s.data.toList.drop f).take (i - f)]) (i + 1) (i + 1) base v' w w1 := by
  have hsz := hg.size
  have hfew := h.few
  refine ⟨?_, by simp, ?_, below_app h.below (Nat.le_refl _) h.le h.own hg, by have := h.le; simp at hsz; omega, by simp; omega⟩
  · rw [h.split]
    have e : spl c (s.data.toList.drop f) = (s.data.toList.drop f).take (i - f) :: spl c (s.data.toList.drop (i + 1)) := by
      have e1 := drop_split s f i hf hi
      rw [hc] at e1
      rw [e1]
      have e2 := spl_first c ((s.data.toList.drop f).take (i - f)) (s.data.toList.drop (i + 1)) h.free
      rw [e2, ← e1]
    rw [e]
    simp
  · rw [ext_tb] at hown
    simpa [sV] using hown
theorem spl_done {c : UInt8} {s : ByteArray} {D : List (List UInt8)} {f i base : Nat} {v v' : Value} {w wr w1 : World} {o : Obj} (h : SplInv c s D f i base v w wr) (hi : s.size ≤ i)
    (hown : w1.ownsRow base 9 1 v' (D.length + 1) (D.map sV ++ [.string (s.extract f s.size)])) (hg : (wr.alloc o).grownBy w1 v.ownBlock) :
    w1.ownsRow base 9 1 v' (spl c s.data.toList).length ((spl c s.data.toList).map sV) ∧ Below base w w1 := by
  refine ⟨?_, below_app h.below (Nat.le_refl _) h.le h.own hg⟩
  have e1 : (s.data.toList.drop f).take (i - f) = s.data.toList.drop f := List.take_of_length_le (by rw [List.length_drop]; simp; omega)
  have hfr := h.free
  rw [e1] at hfr
  rw [h.split, spl_last c _ hfr]
  rw [ext_tb, List.take_of_length_le (by rw [List.length_drop]; simp)] at hown
  simpa [sV] using hown

set_option maxRecDepth 100000 in
set_option maxHeartbeats 1000000 in
theorem split_any (s : ByteArray) (c : UInt8) (w : World) (hs : s.size ≤ 1048576) :
    Calls Tryd.prog 83 #[.string s, .int .u8 (c.toNat : Int)] w fun e w' => ∃ v, e = .returned v ∧ w'.ownsRow w.heap.size 9 1 v (spl c s.data.toList).length ((spl c s.data.toList).map sV) ∧ Below w.heap.size w w' := by
  obtain ⟨i0, hi, hz0, hz1, hz2⟩ := info_parts Tryd.infoStr
  go_enter Tryd.func83, Tryd.ntmps83
  go_wp2
  go_loopw [5, 6, 7] (fun v f i wr => ∃ (D : List (List UInt8)) (F I : Nat), F ≤ I ∧ I ≤ s.size ∧ f = .int .i64 F ∧ i = .int .i64 I ∧ Hid (SplInv c s D F I w.heap.size v w wr)) (fun _ _ i _ => s.size - (intOf i).toNat)
  case atStart => exact ⟨[], 0, 0, by omega, by omega, rfl, rfl, Lib.hid ⟨by simp, by simp, World.ownsRow_made _ _ _ (Nat.le_refl _) (by unfold maxLen; omega) rfl, (Below.refl _ _).alloc (Nat.le_refl _) _, by simp, by simp⟩⟩
  case round =>
    obtain ⟨D, F, I, hFI, hI, rfl, rfl, hD⟩ := hrel
    have hle := hD.out.le
    have hfew := hD.out.few
    by_cases hlt : I < s.size
    · by_cases hc : s[I] = c
      · have t1 : ((s[I].toNat : Int) == (c.toNat : Int)) = true := by rw [hc]; simp
        have HC := Lib.hid hc
        clear hc
        go_wp2_with (at_builtin; refine wpList_app1 rfl _ _ 22 rfl w.heap.size 9 i0 (.string ⟨#[]⟩) 16 Tryd.underlying22 hi hz0 hz1 hz2 rfl _ _ _ rfl hD.out.own _ rfl (by first | rfl | simp) rfl (by omega) (by omega) hle ?_)
        intro v' w1 hown' hgrow
        have HN := Lib.hid (spl_cut hD.out hFI hlt HC.out hown' hgrow)
        clear hown' hgrow
        go_wp2
        go_roundw
        case rel => exact ⟨_, I + 1, I + 1, by omega, by omega, by go_num, by go_num, HN⟩
        case measure => simp [intOf]; omega
      · have t1 : ((s[I].toNat : Int) == (c.toNat : Int)) = false := by
          rw [beq_eq_false_iff_ne]
          intro e
          exact hc (by rw [← UInt8.toNat_inj]; omega)
        have HN := Lib.hid (spl_go hD.out hFI hlt hc)
        clear hc
        go_wp2
        go_roundw
        case rel => exact ⟨D, F, I + 1, by omega, by omega, rfl, by go_num, HN⟩
        case measure => simp [intOf]; omega
    · go_wp2_with (at_builtin; refine wpList_app1 rfl _ _ 22 rfl w.heap.size 9 i0 (.string ⟨#[]⟩) 16 Tryd.underlying22 hi hz0 hz1 hz2 rfl _ _ _ rfl hD.out.own _ rfl (by first | rfl | simp) rfl (by omega) (by omega) hle ?_)
      intro v' w1 hown' hgrow
      have HE := Lib.hid (spl_done hD.out (by omega) hown' hgrow)
      clear hown' hgrow
      go_wp2
      go_ret
      exact ⟨_, rfl, HE.out.1, HE.out.2⟩
end Go.Proofs.YthjimogeimigmaaDoor
