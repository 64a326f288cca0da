/- SplitWords of spec and of impl: the pieces between blanks that are not empty. -/
import Derived.Test.YthjimogeimigmaaDoorSplit
namespace Go.Proofs.YthjimogeimigmaaDoor
open Go.ChangeShapes Go.WideShapes Go.ChangeAt Go.RowKit

def neB (p : List UInt8) : Bool := !p.isEmpty
def wd (l : List UInt8) : List (List UInt8) := (spl 32 l).filter neB
theorem tb_empty_no (p : List UInt8) (h : neB p = true) : ¬ ((tb p).toList = []) ∧ (tb p).toList.isEmpty = false := by
  rw [ByteArray.toList_eq, tb_data]
  unfold neB at h
  cases p <;> simp_all
theorem tb_empty_yes (p : List UInt8) (h : neB p = false) : (tb p).toList = [] ∧ (tb p).toList.isEmpty = true := by
  rw [ByteArray.toList_eq, tb_data]
  unfold neB at h
  cases p <;> simp_all
theorem filter_step (L : List (List UInt8)) (k : Nat) (hk : k < L.length) : (L.take (k + 1)).filter neB = (L.take k).filter neB ++ (if neB (L.getD k []) then [L.getD k []] else []) := by
  have e : L.take (k + 1) = L.take k ++ [L.getD k []] := by
    rw [List.take_succ_eq_append_getElem hk]; simp [hk]
  rw [e, List.filter_append]
  congr 1
  by_cases h : neB (L.getD k []) = true
  · rw [if_pos h, List.filter_cons, if_pos h]; rfl
  · rw [if_neg h, List.filter_cons, if_neg h]; rfl

/-- The loop: of the first k pieces those that are not empty are in the slice; the pieces lie in the block g. -/
structure SwInv (L : List (List UInt8)) (k base base2 g : Nat) (v : Value) (w wr : World) : Prop where
  out : wr.ownsRow base2 9 1 v ((L.take k).filter neB).length (((L.take k).filter neB).map sV)
  src : ∀ j, j < L.length → wr.cell? ⟨g, j, none⟩ = some (.string (tb (L.getD j [])))
  below : Below base w wr
  le : base2 ≤ wr.heap.size
  lt : g < base2
  bs : base ≤ base2
theorem sw_len {L : List (List UInt8)} {k base base2 g : Nat} {v : Value} {w wr : World} (_h : SwInv L k base base2 g v w wr) : ((L.take k).filter neB).length ≤ L.length := by
  have h1 := List.length_filter_le neB (L.take k)
  rw [List.length_take] at h1
  omega
theorem sw_skip {L : List (List UInt8)} {k base base2 g : Nat} {v : Value} {w wr : World} (h : SwInv L k base base2 g v w wr) (hk : k < L.length) (hn : neB (L.getD k []) = false) : SwInv L (k + 1) base base2 g v w wr := by
  refine ⟨?_, h.src, h.below, h.le, h.lt, h.bs⟩
  rw [filter_step L k hk, hn]
  simpa using h.out
theorem sw_take {L : List (List UInt8)} {k base base2 g : Nat} {v v' : Value} {w wr w1 : World} {o : Obj} (h : SwInv L k base base2 g v w wr) (hk : k < L.length) (hn : neB (L.getD k []) = true)
    (hown : w1.ownsRow base2 9 1 v' (((L.take k).filter neB).length + 1) (((L.take k).filter neB).map sV ++ [.string (tb (L.getD k []))])) (hg : (wr.alloc o).grownBy w1 v.ownBlock) : SwInv L (k + 1) base base2 g v' w w1 := by
  have hsz := hg.size
  refine ⟨?_, fun j hj => ?_, below_app h.below h.bs (Nat.le_trans h.bs h.le) h.out hg, by have := h.le; simp at hsz; omega, h.lt, h.bs⟩
  · rw [filter_step L k hk, hn, if_pos rfl, List.length_append, List.map_append]
    exact hown
  · have hlt := h.lt
    have hle := h.le
    refine hg.cell ?_ ?_
    · rw [← h.src j hj]
      exact ((Below.refl base2 wr).alloc hle o).cell (p := ⟨g, j, none⟩) hlt
    · intro e
      have h3 := (h.out.lt g e.symm).1
      omega
theorem sw_end {L : List (List UInt8)} {k base base2 g : Nat} {v : Value} {w wr : World} (h : SwInv L k base base2 g v w wr) (hk : L.length ≤ k) : wr.ownsRow base2 9 1 v (L.filter neB).length ((L.filter neB).map sV) := by
  have := h.out
  rw [List.take_of_length_le hk] at this
  exact this
theorem split32 (s : ByteArray) (w : World) (hs : s.size ≤ 1048576) :
    Calls Tryd.prog 83 #[.string s, .int .u8 32] w fun e w' => ∃ v, e = .returned v ∧ w'.ownsRow w.heap.size 9 1 v (spl 32 s.data.toList).length ((spl 32 s.data.toList).map sV) ∧ Below w.heap.size w w' := split_any s 32 w hs
/-- The answer: the words, in a slice that the call owns. -/
def WdPost (l : List UInt8) (B : Nat) (w : World) (e : Ending) (w' : World) : Prop :=
  ∃ v, e = .returned v ∧ w'.ownsRow B 9 1 v (wd l).length ((wd l).map sV) ∧ Below w.heap.size w w'
theorem own_baseW {w : World} {b b' e size n : Nat} {v : Value} {xs : List Value} (h : w.ownsRow b e size v n xs) (hb : b' ≤ b) : w.ownsRow b' e size v n xs := by
  obtain ⟨h1, h2 | ⟨g, cap, cur, rfl, h3, h4⟩⟩ := h
  · exact ⟨h1, Or.inl h2⟩
  · exact ⟨h1, Or.inr ⟨g, cap, cur, rfl, by omega, h4⟩⟩

theorem piecesW (s : ByteArray) : Lib.splitB ⟨#[32]⟩ 0 (Lib.countB s ⟨#[32]⟩) s = (spl 32 s.data.toList).map tb ∧ Lib.countB s ⟨#[32]⟩ + 1 = (spl 32 s.data.toList).length := by
  have hc : Lib.countB s ⟨#[32]⟩ = s.data.toList.count 32 := Lib.count_one 32 s.data.toList
  have e1 := Lib.splitB_data ⟨#[32]⟩ 0 (Lib.countB s ⟨#[32]⟩) s
  have e2 : Lib.splitK [32] 0 (Lib.countB s ⟨#[32]⟩) s.data.toList = spl 32 s.data.toList := splitK_spl 32 _ _ (by omega)
  have e3 : (Lib.splitB ⟨#[32]⟩ 0 (Lib.countB s ⟨#[32]⟩) s).map (·.data.toList) = spl 32 s.data.toList := e1.trans e2
  refine ⟨?_, by rw [spl_len, hc]⟩
  rw [← e3, List.map_map]
  have : (tb ∘ fun x : ByteArray => x.data.toList) = id := by
    funext x
    exact Lib.mk_data x
  rw [this, List.map_id]
def MaxOkW (w : World) : Prop := 2 < w.heap.size ∧ ∃ m, w.cell? ⟨2, 0, none⟩ = some (.int .i64 m)
theorem MaxOkW.below {B : Nat} {w w' : World} (h : MaxOkW w) (hb : Below B w w') (hB : w.heap.size ≤ B) : MaxOkW w' := by
  obtain ⟨h1, m, h2⟩ := h
  have hs := hb.size
  exact ⟨by omega, m, (hb.cell (p := ⟨2, 0, none⟩) (by simp; omega)).trans h2⟩
end Go.Proofs.YthjimogeimigmaaDoor
