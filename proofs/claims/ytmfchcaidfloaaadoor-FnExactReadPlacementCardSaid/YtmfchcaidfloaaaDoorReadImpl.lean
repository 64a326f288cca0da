/- ReadList of impl: the list with a text. -/
import Derived.Test.YtmfchcaidfloaaaDoorReadSpec
import Derived.Test.YtmfchcaidfloaaaDoorNumberImpl
import Derived.Test.YtmfchcaidfloaaaDoorShelfSplitN
namespace Go.Proofs.YtmfchcaidfloaaaDoor
open Go.ChangeShapes Go.WideShapes Go.ChangeAt Go.RowKit Go.Joins

/-- The cell of internal/bytealg.MaxLen holds a number. -/
def MaxOk (w : World) : Prop := 6 < w.heap.size ∧ ∃ m, w.cell? ⟨6, 0, none⟩ = some (.int .i64 m)
theorem MaxOk.below {B : Nat} {w w' : World} (h : MaxOk w) (hb : Below B w w') (hB : w.heap.size ≤ B) : MaxOk w' := by
  obtain ⟨h1, m, h2⟩ := h
  have hs := hb.size
  exact ⟨by omega, m, (hb.cell (p := ⟨6, 0, none⟩) (by simp; omega)).trans h2⟩

theorem pieces_few (s : ByteArray) (h : (spl 44 s.data.toList).length ≤ 64) : Lib.splitB ⟨#[44]⟩ 0 (min 65 (s.size + 1) - 1) s = (spl 44 s.data.toList).map tb := by
  have e1 := Lib.splitB_data ⟨#[44]⟩ 0 (min 65 (s.size + 1) - 1) s
  have hc : s.data.toList.count 44 ≤ min 65 (s.size + 1) - 1 := by
    rw [spl_len] at h
    have := List.count_le_length (a := (44 : UInt8)) (l := s.data.toList)
    rw [size_list] at this
    omega
  have e2 : Lib.splitK [44] 0 (min 65 (s.size + 1) - 1) s.data.toList = spl 44 s.data.toList := splitK_spl 44 _ _ hc
  have e3 : (Lib.splitB ⟨#[44]⟩ 0 (min 65 (s.size + 1) - 1) s).map (·.data.toList) = spl 44 s.data.toList := e1.trans e2
  rw [← e3, List.map_map]
  have : (tb ∘ fun x : ByteArray => x.data.toList) = id := by
    funext x
    exact Lib.mk_data x
  rw [this, List.map_id]
theorem pieces_many (s : ByteArray) (h : ¬ (spl 44 s.data.toList).length ≤ 64) : (Lib.splitB ⟨#[44]⟩ 0 (min 65 (s.size + 1) - 1) s).length = 65 := by
  have e1 := congrArg List.length (Lib.splitB_data ⟨#[44]⟩ 0 (min 65 (s.size + 1) - 1) s)
  rw [List.length_map] at e1
  rw [e1]
  have e2 : (Lib.splitK [44] 0 (min 65 (s.size + 1) - 1) s.data.toList).length = min (min 65 (s.size + 1) - 1) (s.data.toList.count 44) + 1 := splitK_len 44 _ _
  rw [spl_len] at h
  have := List.count_le_length (a := (44 : UInt8)) (l := s.data.toList)
  rw [size_list] at this
  show (Lib.splitK [44] 0 (min 65 (s.size + 1) - 1) s.data.toList).length = 65
  rw [e2]
  omega
theorem splitN_few (s : ByteArray) (w : World) (hs : s.size ≤ 1048576) (hm : MaxOk w) (h : (spl 44 s.data.toList).length ≤ 64) :
    Calls Tryd.prog 62 #[.string s, .string ⟨#[44]⟩, .int .i64 65] w fun e w' => ∃ cap, e = .returned (.slice (some ⟨w.heap.size, 0, none⟩) (spl 44 s.data.toList).length cap) ∧ w'.heap.size = w.heap.size + 1 ∧
      (∀ j, j < (spl 44 s.data.toList).length → w'.cell? ⟨w.heap.size, j, none⟩ = some (.string (tb ((spl 44 s.data.toList).getD j [])))) ∧ Below w.heap.size w w' := by
  obtain ⟨_, m, hm⟩ := hm
  refine (Tryd.strings_SplitN s ⟨#[44]⟩ 65 m w (by omega) hm (Nat.le_refl _) (by omega) (by omega)).mono ?_
  rintro e w' ⟨rfl, rfl⟩
  rw [pieces_few s h]
  refine ⟨_, by rw [List.length_map], by simp, fun j hj => ?_, (Below.refl _ _).alloc (Nat.le_refl _) _⟩
  simp only [Lib.cellsOf]
  have : (w.alloc (Obj.cells (List.map Value.string (List.map tb (spl 44 s.data.toList)) ++ List.replicate (min 65 (s.size + 1) - (List.map tb (spl 44 s.data.toList)).length) (Value.string ByteArray.empty)).toArray 9)).cell? ⟨w.heap.size, j, none⟩ = (List.map Value.string (List.map tb (spl 44 s.data.toList)) ++ List.replicate (min 65 (s.size + 1) - (List.map tb (spl 44 s.data.toList)).length) (Value.string ByteArray.empty))[j]? := by
    simp
  rw [this, List.getElem?_append_left (by simpa using hj)]
  simp [hj]
theorem splitN_many (s : ByteArray) (w : World) (hs : s.size ≤ 1048576) (hm : MaxOk w) (h : ¬ (spl 44 s.data.toList).length ≤ 64) :
    Calls Tryd.prog 62 #[.string s, .string ⟨#[44]⟩, .int .i64 65] w fun e w' => ∃ cap, e = .returned (.slice (some ⟨w.heap.size, 0, none⟩) 65 cap) ∧ Below w.heap.size w w' := by
  obtain ⟨_, m, hm⟩ := hm
  refine (Tryd.strings_SplitN s ⟨#[44]⟩ 65 m w (by omega) hm (Nat.le_refl _) (by omega) (by omega)).mono ?_
  rintro e w' ⟨rfl, rfl⟩
  exact ⟨_, by rw [pieces_many s h], (Below.refl _ _).alloc (Nat.le_refl _) _⟩
theorem cells1R (a : Int) (t : TypeId) (w : World) : ∀ j, j < [a].length → (w.alloc (Obj.cells #[.int .i64 a] t)).cell? ⟨w.heap.size, 0 + j, none⟩ = some (.int .i64 ([a].getD j 0)) := by
  intro j hj
  match j, hj with
  | 0, _ => simp
theorem wi1 (m a : Int) : wiI m [a] = inI a (-m) m := by simp [wiI, inI]
theorem allWithin1 (a : Int) (t : TypeId) (b : Nat) (w : World) (hb : b = w.heap.size) :
    Calls Tryd.prog 58 #[.int .i64 1000000000000, .slice (some ⟨b, 0, none⟩) 1 1] (w.alloc (Obj.cells #[.int .i64 a] t)) fun e w' => e = .returned (.bool (inI a (-1000000000000) 1000000000000)) ∧ w.alloc (Obj.cells #[.int .i64 a] t) = w' := by
  subst hb
  rw [← wi1]
  exact allWithin_any 1000000000000 (by omega) (by omega) w.heap.size 0 1 1 [a] _ rfl (by omega) (cells1R a t w)
theorem number_tbI (p : List UInt8) (w : World) (hs : p.length ≤ 1048576) (hN : NumOk w) :
    Calls Tryd.prog 63 #[.string (tb p)] w fun e w' => e = .returned (.tuple #[.int .i64 ((numI p).getD 0), .bool (numI p).isSome]) ∧ Below w.heap.size w w' := by
  have := number_impl (tb p) w (by rw [tb_size]; exact hs) hN
  rw [tb_data] at this
  exact this

/-- The loop: the numbers of the first k pieces are written. -/
structure RiInv (l : List UInt8) (k G : Nat) (w wr : World) : Prop where
  own : ∃ X, wr.ownsRow G 2 1 (.slice (some ⟨G, 0, none⟩) (spl 44 l).length (spl 44 l).length) (spl 44 l).length X ∧ ∀ j, j < k → X[j]? = some (iV ((rlVals l).getD j 0))
  good : ∀ j, j < k → (rn ((spl 44 l).getD j [])).isSome = true
  below : Below G w wr
  lt : G < wr.heap.size
theorem ri_call {l : List UInt8} {k G : Nat} {w wr w1 : World} (h : RiInv l k G w wr) (hb : Below wr.heap.size wr w1) : RiInv l k G w w1 := by
  obtain ⟨⟨X, h1, h2⟩, hg, h3, h4⟩ := h
  exact ⟨⟨X, ownB_below h1 hb (Nat.le_refl _), h2⟩, hg, h3.trans (hb.mono (by omega)), by have := hb.size; omega⟩
theorem ri_step {l : List UInt8} {k G : Nat} {w wr : World} {n : Int} (h : RiInv l k G w wr) (hk : k < (spl 44 l).length) (hn : rn ((spl 44 l).getD k []) = some n) : RiInv l (k + 1) G w (wr.setCell ⟨G, k, none⟩ (.int .i64 n)) := by
  obtain ⟨⟨X, h1, h2⟩, hg, h3, h4⟩ := h
  have hX : X.length = (spl 44 l).length := by have := h1.1; simpa using this
  obtain ⟨s1, s2⟩ := h1.stored k (.int .i64 n)
  refine ⟨⟨_, s1, fun j hj => ?_⟩, fun j hj => ?_, h3.setCell (Nat.le_refl _) _, by have := s2.size; omega⟩
  · by_cases e : j = k
    · subst e
      rw [List.getElem?_set_self (by omega)]
      have : (rlVals l).getD j 0 = n := by
        have e2 : (rlVals l).getD j 0 = (rn ((spl 44 l).getD j [])).getD 0 := by simp [rlVals, hk]
        rw [e2, hn]; rfl
      rw [this]; rfl
    · rw [List.getElem?_set_ne (by omega)]; exact h2 j (by omega)
  · by_cases e : j = k
    · subst e; rw [hn]; rfl
    · exact hg j (by omega)
theorem ri_free {l : List UInt8} {k G : Nat} {w wr : World} (h : RiInv l k G w wr) (j : Nat) : wr.frozen? ⟨G, j, none⟩ = false := by
  obtain ⟨⟨X, h1, _⟩, _, _, _⟩ := h
  exact h1.frozenAt j
theorem ri_cell {l : List UInt8} {k G : Nat} {w wr : World} (h : RiInv l k G w wr) (j : Nat) (hj : j < (spl 44 l).length) : ∃ v, wr.cell? ⟨G, j, none⟩ = some v := by
  obtain ⟨⟨X, h1, _⟩, _, _, _⟩ := h
  have hX : X.length = (spl 44 l).length := by have := h1.1; simpa using this
  exact ⟨X[j]'(by omega), by rw [h1.cellAt j (by omega)]; simp⟩
theorem ri_end {l : List UInt8} {k G : Nat} {w wr : World} (h : RiInv l k G w wr) (hk : (spl 44 l).length ≤ k) : wr.ownsRow G 2 1 (.slice (some ⟨G, 0, none⟩) (spl 44 l).length (spl 44 l).length) (rlVals l).length ((rlVals l).map iV) := by
  obtain ⟨⟨X, h1, h2⟩, _, _, _⟩ := h
  have hX : X.length = (spl 44 l).length := by have := h1.1; simpa using this
  have e : X = (rlVals l).map iV := by
    apply List.ext_getElem?
    intro j
    by_cases hj : j < (spl 44 l).length
    · rw [h2 j (by omega)]
      have hj2 : j < (rlVals l).length := by rw [rdvals_len]; exact hj
      simp [hj2]
    · rw [List.getElem?_eq_none (by omega), List.getElem?_eq_none (by rw [List.length_map, rdvals_len]; omega)]
  rw [e] at h1
  rw [rdvals_len]
  exact h1

set_option maxRecDepth 100000 in
set_option maxHeartbeats 2000000 in
theorem readList_impl (s : ByteArray) (w : World) (hs : s.size ≤ 1048576) (hN : NumOk w) (hM : MaxOk w) :
    Calls Tryd.prog 31 #[.string s] w (RdPost s.data.toList w.heap.size w) := by
  have HN := Lib.hid hN
  have HM := Lib.hid hM
  clear hN hM
  by_cases h45 : s.data.toList = [45]
  · obtain rfl := str_45 s h45
    clear h45
    go_enter Tryd.func31, Tryd.ntmps31
    go_wp2
    go_ret2
    exact rdPost_ok (l := [45]) (zs := []) rl_minus (World.ownsRow_made _ _ _ (Nat.le_refl _) (by unfold maxLen; omega) rfl) ((Below.refl _ _).alloc (Nat.le_refl _) _)
  have hq := str_eq s h45
  obtain ⟨hq1, hq2⟩ := hq
  have H45 := Lib.hid h45
  clear h45
  by_cases h64 : (spl 44 s.data.toList).length ≤ 64
  · have e1 : decide (64 < ((spl 44 s.data.toList).length : Int)) = false := by simp; omega
    obtain ⟨i0, hi, hz0, hz1, hz2⟩ := info_parts Tryd.infoI64
    go_enter Tryd.func31, Tryd.ntmps31
    go_wp2_with fail
    refine (splitN_few _ _ hs HM.out h64).mono ?_
    rintro e w1 ⟨cap, rfl, hsz, hcs, hb1⟩
    have HC := Lib.hid hcs
    have HB1 := Lib.hid hb1
    have HN1 := Lib.hid (HN.out.below hb1 (Nat.le_refl _))
    have hP : w.heap.size < w1.heap.size := by omega
    clear hcs hb1 hsz
    go_wp2_with (refine wpList_make_full _ rfl _ _ 65 rfl w1.heap.size 2 i0 (.int .i64 0) 1 Tryd.underlying65 hi hz0 hz1 .i64 .i64 _ _ (spl 44 s.data.toList).length rfl rfl rfl rfl (by rw [hz2]; omega) (by unfold maxLen; omega) (Nat.le_refl _) ?_; intro w2 hown hgrow)
    have HI : Hid (RiInv s.data.toList 0 w1.heap.size w1 w2) := Lib.hid ⟨⟨_, hown, fun j hj => by omega⟩, fun j hj => by omega, (Below.refl _ _).grown hgrow (Nat.le_refl _) (fun k hk => by cases hk), (hown.lt _ rfl).2⟩
    clear hown hgrow
    go_wp2
    go_loopw [23] (fun i wr => ∃ k : Nat, k ≤ (spl 44 s.data.toList).length ∧ i = .int .i64 k ∧ Hid (RiInv s.data.toList k w1.heap.size w1 wr)) (fun i _ => (spl 44 s.data.toList).length - (intOf i).toNat)
    case atStart => exact ⟨0, by omega, rfl, HI⟩
    case round =>
      obtain ⟨k, hk, rfl, hI⟩ := hrel
      have HBr := Lib.hid (HB1.out.trans (hI.out.below.mono HB1.out.size))
      by_cases hlt : k < (spl 44 s.data.toList).length
      · have hcell : wr.cell? ⟨w.heap.size, k, none⟩ = some (.string (tb ((spl 44 s.data.toList).getD k []))) := (hI.out.below.cell (p := ⟨w.heap.size, k, none⟩) hP).trans (HC.out k hlt)
        have hpl : ((spl 44 s.data.toList).getD k []).length ≤ 1048576 := by
          have := spl_piece 44 s.data.toList ((spl 44 s.data.toList).getD k []) (by simp [hlt])
          rw [size_list] at this; omega
        have HNr := Lib.hid (HN1.out.below hI.out.below (Nat.le_refl _))
        have HBAD := Lib.hid (rl_bad H45.out k hlt)
        have HSTEP := Lib.hid (fun (wq : World) (n : Int) (hq : RiInv s.data.toList k w1.heap.size w1 wq) => ri_step (n := n) hq hlt)
        generalize hp : (spl 44 s.data.toList).getD k [] = p at *
        clear hp
        cases hn : numI p with
        | none =>
          have HF := Lib.hid (HBAD.out (rn_none hn))
          go_wp2_with ((with_reducible refine (number_tbI _ _ hpl HNr.out).mono ?_); rintro e w3 ⟨rfl, hb3⟩)
          go_ret2
          exact rdPost_fail HF.out (HBr.out.trans (hb3.mono HBr.out.size))
        | some n =>
          cases hin : inI n (-1000000000000) 1000000000000 with
          | false =>
            have HF := Lib.hid (HBAD.out (rn_out hn hin))
            go_wp2_with (first | ((with_reducible refine (number_tbI _ _ hpl HNr.out).mono ?_); rintro e w3 ⟨rfl, hb3⟩) | ((with_reducible refine (allWithin1 _ _ _ _ (by first | rfl | simp)).mono ?_); rintro e w4 ⟨rfl, rfl⟩))
            go_ret2
            exact rdPost_fail HF.out ((HBr.out.trans (hb3.mono HBr.out.size)).alloc (by have := hb3.size; have := HBr.out.size; omega) _)
          | true =>
            have HRN := Lib.hid (rn_some hn hin)
            go_wp2_with (first | ((with_reducible refine (number_tbI _ _ hpl HNr.out).mono ?_); rintro e w3 ⟨rfl, hb3⟩; have hI3 := Lib.hid (ri_call (ri_call hI.out hb3) ((Below.refl _ _).alloc (Nat.le_refl _) (.cells #[.int .i64 n] 2))); obtain ⟨v0, hdst⟩ := ri_cell hI3.out k hlt; have hfree := ri_free hI3.out k; clear hb3) | ((with_reducible refine (allWithin1 _ _ _ _ (by first | rfl | simp)).mono ?_); rintro e w4 ⟨rfl, rfl⟩))
            have HN3 := Lib.hid (HSTEP.out _ n hI3.out HRN.out)
            go_roundw
            case rel => exact ⟨k + 1, by omega, by go_num, HN3⟩
            case measure => simp [intOf]; omega
      · have HY := Lib.hid (rl_yes H45.out h64 (fun j hj => hI.out.good j (by omega)))
        have HO := Lib.hid (own_base (ri_end hI.out (by omega)) HB1.out.size)
        go_wp2
        go_ret2
        exact rdPost_ok HY.out HO.out HBr.out
  · have HF := Lib.hid (rl_long H45.out h64)
    go_enter Tryd.func31, Tryd.ntmps31
    go_wp2_with fail
    refine (splitN_many _ _ hs HM.out h64).mono ?_
    rintro e w1 ⟨cap, rfl, hb1⟩
    have HB1 := Lib.hid hb1
    clear hb1
    go_wp2
    go_ret2
    exact rdPost_fail HF.out HB1.out
end Go.Proofs.YtmfchcaidfloaaaDoor
