/- SplitWords of spec and of impl: the pieces between blanks that are not empty. -/
import Derived.Test.YtglbbpcdodlnmaaDoorSplit
import Derived.Test.YtglbbpcdodlnmaaDoorShelfSplit
namespace Go.Proofs.YtglbbpcdodlnmaaDoor
open Go.ChangeShapes Go.WideShapes Go.ChangeAt Go.RowKit

def neB (p : List UInt8) : Bool := !p.isEmpty
def wd (l : List UInt8) : List (List UInt8) := (spl 32 l).filter neB
theorem tb_empty_no (p : List UInt8) (h : neB p = true) : ¬ ((tb p).toList = []) ∧ (tb p).toList.isEmpty = false := by
  rw [ByteArray.toList_eq, tb_data]
  unfold neB at h
  cases p <;> simp_all
theorem tb_empty_yes (p : List UInt8) (h : neB p = false) : (tb p).toList = [] ∧ (tb p).toList.isEmpty = true := by
  rw [ByteArray.toList_eq, tb_data]
  unfold neB at h
  cases p <;> simp_all
theorem filter_step (L : List (List UInt8)) (k : Nat) (hk : k < L.length) : (L.take (k + 1)).filter neB = (L.take k).filter neB ++ (if neB (L.getD k []) then [L.getD k []] else []) := by
  have e : L.take (k + 1) = L.take k ++ [L.getD k []] := by
    rw [List.take_succ_eq_append_getElem hk]; simp [hk]
  rw [e, List.filter_append]
  congr 1
  by_cases h : neB (L.getD k []) = true
  · rw [if_pos h, List.filter_cons, if_pos h]; rfl
  · rw [if_neg h, List.filter_cons, if_neg h]; rfl

/-- The loop: of the first k pieces those that are not empty are in the slice; the pieces lie in the block g. -/
structure SwInv (L : List (List UInt8)) (k base base2 g : Nat) (v : Value) (w wr : World) : Prop where
  out : wr.ownsRow base2 9 1 v ((L.take k).filter neB).length (((L.take k).filter neB).map sV)
  src : ∀ j, j < L.length → wr.cell? ⟨g, j, none⟩ = some (.string (tb (L.getD j [])))
  below : Below base w wr
  le : base2 ≤ wr.heap.size
  lt : g < base2
  bs : base ≤ base2
theorem sw_len {L : List (List UInt8)} {k base base2 g : Nat} {v : Value} {w wr : World} (_h : SwInv L k base base2 g v w wr) : ((L.take k).filter neB).length ≤ L.length := by
  have h1 := List.length_filter_le neB (L.take k)
  rw [List.length_take] at h1
  omega
theorem sw_skip {L : List (List UInt8)} {k base base2 g : Nat} {v : Value} {w wr : World} (h : SwInv L k base base2 g v w wr) (hk : k < L.length) (hn : neB (L.getD k []) = false) : SwInv L (k + 1) base base2 g v w wr := by
  refine ⟨?_, h.src, h.below, h.le, h.lt, h.bs⟩
  rw [filter_step L k hk, hn]
  simpa using h.out
theorem sw_take {L : List (List UInt8)} {k base base2 g : Nat} {v v' : Value} {w wr w1 : World} {o : Obj} (h : SwInv L k base base2 g v w wr) (hk : k < L.length) (hn : neB (L.getD k []) = true)
    (hown : w1.ownsRow base2 9 1 v' (((L.take k).filter neB).length + 1) (((L.take k).filter neB).map sV ++ [.string (tb (L.getD k []))])) (hg : (wr.alloc o).grownBy w1 v.ownBlock) : SwInv L (k + 1) base base2 g v' w w1 := by
  have hsz := hg.size
  refine ⟨?_, fun j hj => ?_, below_app h.below h.bs (Nat.le_trans h.bs h.le) h.out hg, by have := h.le; simp at hsz; omega, h.lt, h.bs⟩
  · rw [filter_step L k hk, hn, if_pos rfl, List.length_append, List.map_append]
    exact hown
  · have hlt := h.lt
    have hle := h.le
    refine hg.cell ?_ ?_
    · rw [← h.src j hj]
      exact ((Below.refl base2 wr).alloc hle o).cell (p := ⟨g, j, none⟩) hlt
    · intro e
      have h3 := (h.out.lt g e.symm).1
      omega
theorem sw_end {L : List (List UInt8)} {k base base2 g : Nat} {v : Value} {w wr : World} (h : SwInv L k base base2 g v w wr) (hk : L.length ≤ k) : wr.ownsRow base2 9 1 v (L.filter neB).length ((L.filter neB).map sV) := by
  have := h.out
  rw [List.take_of_length_le hk] at this
  exact this
theorem split32 (s : ByteArray) (w : World) (hs : s.size ≤ 1048576) :
    Calls Tryd.prog 53 #[.string s, .int .u8 32] w fun e w' => ∃ v, e = .returned v ∧ w'.ownsRow w.heap.size 9 1 v (spl 32 s.data.toList).length ((spl 32 s.data.toList).map sV) ∧ Below w.heap.size w w' := split_any s 32 w hs
/-- The answer: the words, in a slice that the call owns. -/
def WdPost (l : List UInt8) (B : Nat) (w : World) (e : Ending) (w' : World) : Prop :=
  ∃ v, e = .returned v ∧ w'.ownsRow B 9 1 v (wd l).length ((wd l).map sV) ∧ Below w.heap.size w w'
theorem own_baseW {w : World} {b b' e size n : Nat} {v : Value} {xs : List Value} (h : w.ownsRow b e size v n xs) (hb : b' ≤ b) : w.ownsRow b' e size v n xs := by
  obtain ⟨h1, h2 | ⟨g, cap, cur, rfl, h3, h4⟩⟩ := h
  · exact ⟨h1, Or.inl h2⟩
  · exact ⟨h1, Or.inr ⟨g, cap, cur, rfl, by omega, h4⟩⟩

set_option maxRecDepth 100000 in
set_option maxHeartbeats 2000000 in
theorem words_spec (s : ByteArray) (w : World) (hs : s.size ≤ 1048576) : Calls Tryd.prog 26 #[.string s] w (WdPost s.data.toList w.heap.size w) := by
  obtain ⟨i0, hi, hz0, hz1, hz2⟩ := info_parts Tryd.infoStr
  go_enter Tryd.func26, Tryd.ntmps26
  go_wp2_with fail
  refine (split32 _ _ hs).mono ?_
  rintro e w1 ⟨v, rfl, hown, hb1⟩
  have hsz : (spl 32 s.data.toList).length ≤ 1048577 := by have := spl_size 32 s.data.toList; simp at this; omega
  have hsp : 0 < (spl 32 s.data.toList).length := by rw [spl_len]; omega
  have HW : Hid (wd s.data.toList = (spl 32 s.data.toList).filter neB) := Lib.hid rfl
  generalize spl 32 s.data.toList = L at *
  obtain ⟨g, cap, rfl, hg1, hg2, hcap⟩ := own_shape hown hsp
  have HB1 := Lib.hid hb1
  have hle1 := hb1.size
  obtain ⟨Z, hZ⟩ : ∃ Z, w1.heap.size = Z := ⟨_, rfl⟩
  have HR : Hid (SwInv L 0 w.heap.size Z g (.slice (some ⟨w1.heap.size, 0, none⟩) 0 0) w (w1.alloc (.cells #[] 9))) := Lib.hid (by
    subst hZ
    refine ⟨by simpa using World.ownsRow_made _ _ _ (Nat.le_refl _) (by unfold maxLen; omega) rfl, fun j hj => ?_, HB1.out.alloc (by omega) _, by simp, hg2, by omega⟩
    have ho := hown.alloc (.cells #[] 9)
    rw [ho.cellAt j (by omega)]
    simp [hj, sV])
  clear hZ hown hb1
  go_wp2
  go_loopw [4, 5] (fun v i wr => ∃ k : Nat, k ≤ L.length ∧ i = .int .i64 k ∧ Hid (SwInv L k w.heap.size Z g v w wr)) (fun _ i _ => L.length - (intOf i).toNat)
  case atStart => exact ⟨0, by omega, rfl, HR⟩
  case round =>
    obtain ⟨k, hk, rfl, hR⟩ := hrel
    have hle := hR.out.le
    have hfl := sw_len hR.out
    by_cases hlt : k < L.length
    · have hcell := hR.out.src k hlt
      cases hne : neB (L.getD k []) with
      | false =>
        have HN := Lib.hid (sw_skip hR.out hlt hne)
        obtain ⟨q1, q2⟩ := tb_empty_yes _ hne
        generalize L.getD k [] = p at *
        go_wp2
        go_roundw
        case rel => exact ⟨k + 1, by omega, by go_num, HN⟩
        case measure => simp [intOf]; omega
      | true =>
        have HSTEP := Lib.hid (fun v' w1 o => @sw_take L k w.heap.size Z g _ v' w wr w1 o hR.out hlt hne)
        obtain ⟨q1, q2⟩ := tb_empty_no _ hne
        have ho2 := hR.out.out
        generalize hX : ((L.take k).filter neB).map sV = X at ho2
        generalize hY : ((L.take k).filter neB).length = Y at ho2 hfl
        have HX := Lib.hid hX
        have HY := Lib.hid hY
        have HO2 := Lib.hid ho2
        clear hX hY ho2
        generalize L.getD k [] = p at *
        go_wp2_with (at_builtin; refine wpList_app1 rfl _ _ 40 rfl Z 9 i0 (.string ⟨#[]⟩) 16 Tryd.underlying40 hi hz0 hz1 hz2 rfl _ _ _ rfl HO2.out _ rfl (by first | rfl | simp) rfl (by omega) (by omega) hle ?_)
        intro v' w2 hown' hgrow
        have HN := Lib.hid (HSTEP.out _ _ _ (by rw [HX.out, HY.out]; exact hown') hgrow)
        clear hown' hgrow
        go_wp2
        go_roundw
        case rel => exact ⟨k + 1, by omega, by go_num, HN⟩
        case measure => simp [intOf]; omega
    · have HE := Lib.hid (own_baseW (sw_end hR.out (by omega)) hR.out.bs)
      have HBr := Lib.hid hR.out.below
      go_wp2
      go_ret
      exact ⟨_, rfl, by rw [HW.out]; exact HE.out, HBr.out⟩

theorem piecesW (s : ByteArray) : Lib.splitB ⟨#[32]⟩ 0 (Lib.countB s ⟨#[32]⟩) s = (spl 32 s.data.toList).map tb ∧ Lib.countB s ⟨#[32]⟩ + 1 = (spl 32 s.data.toList).length := by
  have hc : Lib.countB s ⟨#[32]⟩ = s.data.toList.count 32 := Lib.count_one 32 s.data.toList
  have e1 := Lib.splitB_data ⟨#[32]⟩ 0 (Lib.countB s ⟨#[32]⟩) s
  have e2 : Lib.splitK [32] 0 (Lib.countB s ⟨#[32]⟩) s.data.toList = spl 32 s.data.toList := splitK_spl 32 _ _ (by omega)
  have e3 : (Lib.splitB ⟨#[32]⟩ 0 (Lib.countB s ⟨#[32]⟩) s).map (·.data.toList) = spl 32 s.data.toList := e1.trans e2
  refine ⟨?_, by rw [spl_len, hc]⟩
  rw [← e3, List.map_map]
  have : (tb ∘ fun x : ByteArray => x.data.toList) = id := by
    funext x
    exact Lib.mk_data x
  rw [this, List.map_id]
def MaxOkW (w : World) : Prop := 4 < w.heap.size ∧ ∃ m, w.cell? ⟨4, 0, none⟩ = some (.int .i64 m)
theorem MaxOkW.below {B : Nat} {w w' : World} (h : MaxOkW w) (hb : Below B w w') (hB : w.heap.size ≤ B) : MaxOkW w' := by
  obtain ⟨h1, m, h2⟩ := h
  have hs := hb.size
  exact ⟨by omega, m, (hb.cell (p := ⟨4, 0, none⟩) (by simp; omega)).trans h2⟩
theorem splitW (s : ByteArray) (w : World) (hs : s.size ≤ 1048576) (hm : MaxOkW w) :
    Calls Tryd.prog 54 #[.string s, .string ⟨#[32]⟩] w fun e w' => e = .returned (.slice (some ⟨w.heap.size, 0, none⟩) (spl 32 s.data.toList).length (spl 32 s.data.toList).length) ∧ w'.heap.size = w.heap.size + 1 ∧
      (∀ j, j < (spl 32 s.data.toList).length → w'.cell? ⟨w.heap.size, j, none⟩ = some (.string (tb ((spl 32 s.data.toList).getD j [])))) ∧ Below w.heap.size w w' := by
  obtain ⟨_, m, hm⟩ := hm
  refine (Tryd.strings_Split s ⟨#[32]⟩ m w (by omega) hm (Nat.le_refl _)).mono ?_
  obtain ⟨p1, p2⟩ := piecesW s
  rw [p1, p2]
  rintro e w' ⟨rfl, rfl⟩
  refine ⟨rfl, by simp, fun j hj => ?_, (Below.refl _ _).alloc (Nat.le_refl _) _⟩
  simp [hj]

set_option maxRecDepth 100000 in
set_option maxHeartbeats 2000000 in
theorem words_impl (s : ByteArray) (w : World) (hs : s.size ≤ 1048576) (hM : MaxOkW w) : Calls Tryd.prog 27 #[.string s] w (WdPost s.data.toList w.heap.size w) := by
  have HM := Lib.hid hM
  clear hM
  obtain ⟨i0, hi, hz0, hz1, hz2⟩ := info_parts Tryd.infoStr
  go_enter Tryd.func27, Tryd.ntmps27
  go_wp2_with fail
  refine (splitW _ _ hs HM.out).mono ?_
  rintro e w1 ⟨rfl, hh, hcs, hb1⟩
  have hsz : (spl 32 s.data.toList).length ≤ 1048577 := by have := spl_size 32 s.data.toList; simp at this; omega
  have HW : Hid (wd s.data.toList = (spl 32 s.data.toList).filter neB) := Lib.hid rfl
  generalize spl 32 s.data.toList = L at *
  have HB1 := Lib.hid hb1
  obtain ⟨Z, hZ⟩ : ∃ Z, w1.heap.size = Z := ⟨_, rfl⟩
  have HR : Hid (SwInv L 0 w.heap.size Z w.heap.size (.slice none 0 0) w w1) := Lib.hid (by
    subst hZ
    exact ⟨by simpa using World.ownsRow_nil _ _ _ _, hcs, hb1, Nat.le_refl _, by omega, by omega⟩)
  clear hZ hcs hb1 hh
  go_wp2
  go_loopw [3, 9] (fun v i wr => ∃ k : Nat, k ≤ L.length ∧ i = .int .i64 k ∧ Hid (SwInv L k w.heap.size Z w.heap.size v w wr)) (fun _ i _ => L.length - (intOf i).toNat)
  case atStart => exact ⟨0, by omega, rfl, HR⟩
  case round =>
    obtain ⟨k, hk, rfl, hR⟩ := hrel
    have hle := hR.out.le
    have hfl := sw_len hR.out
    by_cases hlt : k < L.length
    · have hcell := hR.out.src k hlt
      cases hne : neB (L.getD k []) with
      | false =>
        have HN := Lib.hid (sw_skip hR.out hlt hne)
        obtain ⟨q1, q2⟩ := tb_empty_yes _ hne
        generalize L.getD k [] = p at *
        go_wp2
        go_roundw
        case rel => exact ⟨k + 1, by omega, by go_num, HN⟩
        case measure => simp [intOf]; omega
      | true =>
        have HSTEP := Lib.hid (fun v' w1 o => @sw_take L k w.heap.size Z w.heap.size _ v' w wr w1 o hR.out hlt hne)
        obtain ⟨q1, q2⟩ := tb_empty_no _ hne
        have ho2 := hR.out.out
        generalize hX : ((L.take k).filter neB).map sV = X at ho2
        generalize hY : ((L.take k).filter neB).length = Y at ho2 hfl
        have HX := Lib.hid hX
        have HY := Lib.hid hY
        have HO2 := Lib.hid ho2
        clear hX hY ho2
        generalize L.getD k [] = p at *
        go_wp2_with (at_builtin; refine wpList_app1 rfl _ _ 40 rfl Z 9 i0 (.string ⟨#[]⟩) 16 Tryd.underlying40 hi hz0 hz1 hz2 rfl _ _ _ rfl HO2.out _ rfl (by first | rfl | simp) rfl (by omega) (by omega) hle ?_)
        intro v' w2 hown' hgrow
        have HN := Lib.hid (HSTEP.out _ _ _ (by rw [HX.out, HY.out]; exact hown') hgrow)
        clear hown' hgrow
        go_wp2
        go_roundw
        case rel => exact ⟨k + 1, by omega, by go_num, HN⟩
        case measure => simp [intOf]; omega
    · have HE := Lib.hid (own_baseW (sw_end hR.out (by omega)) hR.out.bs)
      have HBr := Lib.hid hR.out.below
      go_wp2
      go_ret
      exact ⟨_, rfl, by rw [HW.out]; exact HE.out, HBr.out⟩
end Go.Proofs.YtglbbpcdodlnmaaDoor
