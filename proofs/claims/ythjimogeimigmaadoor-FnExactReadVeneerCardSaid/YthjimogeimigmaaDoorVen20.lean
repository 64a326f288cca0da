/- The words of the text of a veneer: spec's and impl's splits. -/
import Derived.Test.YthjimogeimigmaaDoorVen19
import Derived.Test.YthjimogeimigmaaDoorSplit
import Derived.Test.YthjimogeimigmaaDoorNumberImpl
import Derived.Test.YthjimogeimigmaaDoorShelfSplitN
import Derived.Test.YthjimogeimigmaaDoorMarks
namespace Go.Proofs.YthjimogeimigmaaDoor
open Seq2 Go.ChangeShapes Go.WideShapes Go.ChangeAt Go.RowKit Go.Joins
set_option linter.unusedVariables false
set_option linter.unusedSimpArgs false

theorem num_blank (l : List UInt8) (h : 32 ∈ l) : numI l = none := by
  have h1 : 32 ∈ tailD l := by
    unfold tailD
    split
    · rename_i h45
      match l, h, h45 with
      | c :: r, h, h45 =>
        simp at h45
        subst h45
        rcases List.mem_cons.1 h with e | e
        · cases e
        · exact e
    · exact h
  have h2 : (tailD l).all isD = false := by
    rw [List.all_eq_false]
    exact ⟨32, h1, by decide⟩
  unfold numI okNum
  rw [h2]
  simp
/-- Three pieces at most: what comes behind the second one stays together. -/
theorem splitK_two (l : List UInt8) (h : 3 ≤ l.count 32) : ∃ a b r, Lib.splitK [32] 0 2 l = [a, b, r] ∧ 32 ∈ r ∧ a.length ≤ l.length ∧ b.length ≤ l.length ∧ r.length ≤ l.length := by
  have key : ∀ (k : Nat) (l : List UInt8), k < l.count 32 → ∃ p r, l = p ++ 32 :: r ∧ Lib.splitK [32] 0 (k + 1) l = p :: Lib.splitK [32] 0 k r ∧ r.count 32 = l.count 32 - 1 := fun k l hk => by
    rw [Lib.splitK, Lib.index_one]
    rcases idx_split 32 l with ⟨h1, h2⟩ | ⟨p, r, rfl, h2, h3⟩
    · rw [List.count_eq_zero.2 h2] at hk; omega
    · have h4 : ((p.length : Int) == -1) = false := by rw [beq_eq_false_iff_ne]; omega
      have e1 : (p ++ 32 :: r).take ((p.length : Int).toNat + 0) = p := by simp
      have e2 : (p ++ 32 :: r).drop ((p.length : Int).toNat + [(32 : UInt8)].length) = r := by
        rw [show ((p.length : Int).toNat + [(32 : UInt8)].length) = p.length + 1 by simp]
        simp [List.drop_append]
      refine ⟨p, r, rfl, ?_, ?_⟩
      · rw [h3, h4, e1, e2]; rfl
      · rw [List.count_append, List.count_eq_zero.2 h2]; simp
  obtain ⟨a, r1, e1, s1, c1⟩ := key 1 l (by omega)
  obtain ⟨b, r2, e2, s2, c2⟩ := key 0 r1 (by omega)
  refine ⟨a, b, r2, by rw [s1, s2]; rfl, ?_, ?_, ?_, ?_⟩
  · exact List.count_pos_iff.1 (by omega)
  · rw [e1]; simp
  · rw [e1, e2]; simp; omega
  · rw [e1, e2]; simp; omega
/-- A call that makes three strings; one that makes another number of them. -/
def Pc3 (a b c : List UInt8) (w : World) (e : Ending) (w' : World) : Prop := ∃ g cap, e = .returned (.slice (some ⟨g, 0, none⟩) 3 cap) ∧ g < w'.heap.size ∧ w'.cell? ⟨g, 0, none⟩ = some (.string (tb a)) ∧ w'.cell? ⟨g, 1, none⟩ = some (.string (tb b)) ∧ w'.cell? ⟨g, 2, none⟩ = some (.string (tb c)) ∧ Below w.heap.size w w'
def PcN (w : World) (e : Ending) (w' : World) : Prop := ∃ ao n cap, e = .returned (.slice ao n cap) ∧ n ≠ 3 ∧ n ≤ 2000000 ∧ Below w.heap.size w w'
theorem spl3_spec (s : ByteArray) (a b c : List UInt8) (w : World) (hs : s.size ≤ 1048576) (h : spl 32 s.data.toList = [a, b, c]) : Calls Tryd.prog 83 #[.string s, .int .u8 32] w (Pc3 a b c w) := by
  refine (split_any s 32 w hs).mono ?_
  rintro e w1 ⟨v, rfl, ho, g1⟩
  rw [h] at ho
  obtain ⟨g, cap, rfl, hg1, hg2, hg3⟩ := own_shape ho (by simp)
  exact ⟨g, cap, rfl, hg2, (ho.cellAt 0 (by simp)).trans rfl, (ho.cellAt 1 (by simp)).trans rfl, (ho.cellAt 2 (by simp)).trans rfl, g1⟩
theorem splN_spec (s : ByteArray) (w : World) (hs : s.size ≤ 1048576) (h : (spl 32 s.data.toList).length ≠ 3) : Calls Tryd.prog 83 #[.string s, .int .u8 32] w (PcN w) := by
  refine (split_any s 32 w hs).mono ?_
  rintro e w1 ⟨v, rfl, ho, g1⟩
  obtain ⟨ao, cap, rfl, _⟩ := own_view ho
  have := spl_size 32 s.data.toList
  rw [size_list] at this
  exact ⟨ao, _, cap, rfl, h, by omega, g1⟩
/-- The cell of internal/bytealg.MaxLen holds a number. -/
def MaxV (w : World) : Prop := 2 < w.heap.size ∧ ∃ m, w.cell? ⟨2, 0, none⟩ = some (.int .i64 m)
theorem MaxV.below {B : Nat} {w w' : World} (h : MaxV w) (hb : Below B w w') (hB : w.heap.size ≤ B) : MaxV w' := by
  obtain ⟨h1, m, h2⟩ := h
  have hs := hb.size
  exact ⟨by omega, m, (hb.cell (p := ⟨2, 0, none⟩) (by simp; omega)).trans h2⟩
theorem piecesV (s : ByteArray) : (Lib.splitB ⟨#[32]⟩ 0 (min 3 (s.size + 1) - 1) s) = (Lib.splitK [32] 0 (min 3 (s.size + 1) - 1) s.data.toList).map tb := by
  have e1 := Lib.splitB_data ⟨#[32]⟩ 0 (min 3 (s.size + 1) - 1) s
  rw [show Lib.splitK [32] 0 (min 3 (s.size + 1) - 1) s.data.toList = _ from e1.symm, List.map_map]
  have : (tb ∘ fun x : ByteArray => x.data.toList) = id := by
    funext x
    exact Lib.mk_data x
  rw [this, List.map_id]
theorem splitN_any (s : ByteArray) (w : World) (L : List (List UInt8)) (hs : s.size ≤ 1048576) (hm : MaxV w) (hL : Lib.splitK [32] 0 (min 3 (s.size + 1) - 1) s.data.toList = L) :
    Calls Tryd.prog 70 #[.string s, .string ⟨#[32]⟩, .int .i64 3] w fun e w' => ∃ cap, e = .returned (.slice (some ⟨w.heap.size, 0, none⟩) L.length cap) ∧ w.heap.size < w'.heap.size ∧
      (∀ j, j < L.length → w'.cell? ⟨w.heap.size, j, none⟩ = some (.string (tb (L.getD j [])))) ∧ Below w.heap.size w w' := by
  obtain ⟨_, m, hm⟩ := hm
  refine (Tryd.strings_SplitN s ⟨#[32]⟩ 3 m w (by omega) hm (Nat.le_refl _) (by omega) (by omega)).mono ?_
  rintro e w' ⟨rfl, rfl⟩
  rw [piecesV s, hL]
  refine ⟨_, by rw [List.length_map], by simp, fun j hj => ?_, (Below.refl _ _).alloc (Nat.le_refl _) _⟩
  simp only [Lib.cellsOf]
  have : (w.alloc (Obj.cells (List.map Value.string (List.map tb L) ++ List.replicate (min 3 (s.size + 1) - (List.map tb L).length) (Value.string ByteArray.empty)).toArray 9)).cell? ⟨w.heap.size, j, none⟩ = (List.map Value.string (List.map tb L) ++ List.replicate (min 3 (s.size + 1) - (List.map tb L).length) (Value.string ByteArray.empty))[j]? := by
    simp
  rw [this, List.getElem?_append_left (by simpa using hj)]
  simp [hj]
theorem spl3_impl (s : ByteArray) (a b c : List UInt8) (w : World) (hs : s.size ≤ 1048576) (hm : MaxV w) (h : Lib.splitK [32] 0 (min 3 (s.size + 1) - 1) s.data.toList = [a, b, c]) : Calls Tryd.prog 70 #[.string s, .string ⟨#[32]⟩, .int .i64 3] w (Pc3 a b c w) := by
  refine (splitN_any s w [a, b, c] hs hm h).mono ?_
  rintro e w1 ⟨cap, rfl, hg, hc, g1⟩
  exact ⟨_, cap, rfl, hg, hc 0 (by simp), hc 1 (by simp), hc 2 (by simp), g1⟩
theorem splN_impl (s : ByteArray) (w : World) (hs : s.size ≤ 1048576) (hm : MaxV w) (h : (Lib.splitK [32] 0 (min 3 (s.size + 1) - 1) s.data.toList).length ≠ 3) : Calls Tryd.prog 70 #[.string s, .string ⟨#[32]⟩, .int .i64 3] w (PcN w) := by
  refine (splitN_any s w _ hs hm rfl).mono ?_
  rintro e w1 ⟨cap, rfl, _, _, g1⟩
  refine ⟨_, _, cap, rfl, h, ?_, g1⟩
  rw [splitK_len]
  omega
theorem count_size (s : ByteArray) : s.data.toList.count 32 ≤ s.size := by
  have := List.count_le_length (a := (32 : UInt8)) (l := s.data.toList)
  rwa [size_list] at this
/-- Few blanks: the pieces are spec's. -/
theorem piecesFew (s : ByteArray) (h : s.data.toList.count 32 ≤ 2) : Lib.splitK [32] 0 (min 3 (s.size + 1) - 1) s.data.toList = spl 32 s.data.toList :=
  splitK_spl 32 _ _ (by have := count_size s; omega)
theorem piecesMany (s : ByteArray) (h : 3 ≤ s.data.toList.count 32) : Lib.splitK [32] 0 (min 3 (s.size + 1) - 1) s.data.toList = Lib.splitK [32] 0 2 s.data.toList := by
  have := count_size s
  rw [show min 3 (s.size + 1) - 1 = 2 by omega]
end Go.Proofs.YthjimogeimigmaaDoor
