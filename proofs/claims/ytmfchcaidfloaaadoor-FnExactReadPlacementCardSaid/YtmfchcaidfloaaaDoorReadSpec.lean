/- ReadList of spec: the list with a text. -/
import Derived.Test.YtmfchcaidfloaaaDoorK14
import Derived.Test.YtmfchcaidfloaaaDoorNumber
namespace Go.Proofs.YtmfchcaidfloaaaDoor
open Go.ChangeShapes Go.WideShapes Go.ChangeAt Go.RowKit

/-- The number of a piece, if it is one of a list. -/
def rn (p : List UInt8) : Option Int := match numI p with
  | some n => if inI n (-1000000000000) 1000000000000 then some n else none
  | none => none
def rlGood (l : List UInt8) : Bool := decide ((spl 44 l).length ≤ 64) && (spl 44 l).all (fun p => (rn p).isSome)
def rlVals (l : List UInt8) : List Int := (spl 44 l).map (fun p => (rn p).getD 0)
/-- What both ReadLists answer: whether there is a list, and the list. -/
def rlB (l : List UInt8) : Bool := decide (l = [45]) || rlGood l
def rlL (l : List UInt8) : List Int := if l = [45] then [] else if rlGood l then rlVals l else []
def iV (z : Int) : Value := .int .i64 z

theorem rn_some {p : List UInt8} {n : Int} (h : numI p = some n) (hi : inI n (-1000000000000) 1000000000000 = true) : rn p = some n := by simp [rn, h, hi]
theorem rn_out {p : List UInt8} {n : Int} (h : numI p = some n) (hi : inI n (-1000000000000) 1000000000000 = false) : rn p = none := by simp [rn, h, hi]
theorem rn_none {p : List UInt8} (h : numI p = none) : rn p = none := by simp [rn, h]
theorem rl_bad {l : List UInt8} (h45 : l ≠ [45]) (k : Nat) (hk : k < (spl 44 l).length) (h : rn ((spl 44 l).getD k []) = none) : rlB l = false ∧ rlL l = [] := by
  have hg : rlGood l = false := by
    unfold rlGood
    rw [Bool.and_eq_false_iff]
    right
    rw [List.all_eq_false]
    exact ⟨(spl 44 l).getD k [], by simp [hk], by rw [h]; simp⟩
  simp [rlB, rlL, h45, hg]
theorem rl_long {l : List UInt8} (h45 : l ≠ [45]) (h : ¬ (spl 44 l).length ≤ 64) : rlB l = false ∧ rlL l = [] := by
  have hg : rlGood l = false := by unfold rlGood; rw [decide_eq_false h]; rfl
  simp [rlB, rlL, h45, hg]
theorem rl_yes {l : List UInt8} (h45 : l ≠ [45]) (hl : (spl 44 l).length ≤ 64) (h : ∀ j, j < (spl 44 l).length → (rn ((spl 44 l).getD j [])).isSome = true) : rlB l = true ∧ rlL l = rlVals l := by
  have hg : rlGood l = true := by
    unfold rlGood
    rw [decide_eq_true hl, Bool.true_and, List.all_eq_true]
    intro p hp
    obtain ⟨j, hj, rfl⟩ := List.getElem_of_mem hp
    have := h j hj
    simpa [hj] using this
  simp [rlB, rlL, h45, hg]

/-- The loop: the numbers of the first k pieces are in the slice. -/
structure RdInv (l : List UInt8) (k base base2 g cap : Nat) (v : Value) (w wr : World) : Prop where
  out : wr.ownsRow base2 2 1 v k (((rlVals l).take k).map iV)
  src : wr.ownsRow base 9 1 (.slice (some ⟨g, 0, none⟩) (spl 44 l).length cap) (spl 44 l).length ((spl 44 l).map sV)
  good : ∀ j, j < k → (rn ((spl 44 l).getD j [])).isSome = true
  below : Below base w wr
  le : base2 ≤ wr.heap.size
  lt : g < base2
  bs : base ≤ base2
theorem rd_cell {l : List UInt8} {k base base2 g cap : Nat} {v : Value} {w wr : World} (h : RdInv l k base base2 g cap v w wr) (hk : k < (spl 44 l).length) : wr.cell? ⟨g, k, none⟩ = some (.string (tb ((spl 44 l).getD k []))) := by
  rw [h.src.cellAt k (by omega)]
  simp [hk, sV]
theorem rd_step {l : List UInt8} {k base base2 g cap : Nat} {v v' : Value} {w wr w1 : World} {o : Obj} {n : Int} (h : RdInv l k base base2 g cap v w wr) (hk : k < (spl 44 l).length) (hn : rn ((spl 44 l).getD k []) = some n)
    (hown : w1.ownsRow base2 2 1 v' (k + 1) (((rlVals l).take k).map iV ++ [.int .i64 n])) (hg : (wr.alloc o).grownBy w1 v.ownBlock) : RdInv l (k + 1) base base2 g cap v' w w1 := by
  have hsz := hg.size
  refine ⟨?_, (h.src.alloc o).kept hg ?_, fun j hj => ?_, below_app h.below h.bs (Nat.le_trans h.bs h.le) h.out hg, by have := h.le; simp at hsz; omega, h.lt, h.bs⟩
  · have e : (rlVals l).take (k + 1) = (rlVals l).take k ++ [n] := by
      have hkl : k < (rlVals l).length := by simp [rlVals, hk]
      rw [List.take_succ_eq_append_getElem hkl]
      congr 2
      simp only [rlVals, List.getElem_map]
      have e2 : (spl 44 l).getD k [] = (spl 44 l)[k] := by simp [hk]
      rw [← e2, hn]; rfl
    rw [e, List.map_append]
    exact hown
  · right
    intro he
    have := h.lt
    have h3 := (h.out.lt g he.symm).1
    omega
  · by_cases e : j = k
    · subst e; rw [hn]; rfl
    · exact h.good j (by omega)

theorem own_base {w : World} {b b' e size n : Nat} {v : Value} {xs : List Value} (h : w.ownsRow b e size v n xs) (hb : b' ≤ b) : w.ownsRow b' e size v n xs := by
  obtain ⟨h1, h2 | ⟨g, cap, cur, rfl, h3, h4⟩⟩ := h
  · exact ⟨h1, Or.inl h2⟩
  · exact ⟨h1, Or.inr ⟨g, cap, cur, rfl, by omega, h4⟩⟩
theorem split44 (s : ByteArray) (w : World) (hs : s.size ≤ 1048576) :
    Calls Tryd.prog 60 #[.string s, .int .u8 44] w fun e w' => ∃ v, e = .returned v ∧ w'.ownsRow w.heap.size 9 1 v (spl 44 s.data.toList).length ((spl 44 s.data.toList).map sV) ∧ Below w.heap.size w w' := split_any s 44 w hs
theorem number_tb (p : List UInt8) (w : World) (hs : p.length ≤ 1048576) :
    Calls Tryd.prog 61 #[.string (tb p)] w fun e w' => e = .returned (.tuple #[.int .i64 ((numI p).getD 0), .bool (numI p).isSome]) ∧ w = w' := by
  have := l01Number_t (tb p) w (by rw [tb_size]; exact hs)
  rw [tb_data] at this
  exact this
theorem rdvals_len (l : List UInt8) : (rlVals l).length = (spl 44 l).length := by simp [rlVals]

/-- The answer of a ReadList: a list that the call owns, and whether there is one. -/
def RdPost (l : List UInt8) (B : Nat) (w : World) (e : Ending) (w' : World) : Prop :=
  ∃ v, e = .returned (.tuple #[v, .bool (rlB l)]) ∧ w'.ownsRow B 2 1 v (rlL l).length ((rlL l).map iV) ∧ Below w.heap.size w w'
theorem rdPost_fail {l : List UInt8} {B : Nat} {w w' : World} (h : rlB l = false ∧ rlL l = []) (hb : Below w.heap.size w w') : RdPost l B w (.returned (.tuple #[.slice none 0 0, .bool false])) w' :=
  ⟨.slice none 0 0, by rw [h.1], by rw [h.2]; exact World.ownsRow_nil _ _ _ _, hb⟩
theorem rdPost_ok {l : List UInt8} {B : Nat} {v : Value} {zs : List Int} {w w' : World} (h : rlB l = true ∧ rlL l = zs) (ho : w'.ownsRow B 2 1 v zs.length (zs.map iV)) (hb : Below w.heap.size w w') : RdPost l B w (.returned (.tuple #[v, .bool true])) w' :=
  ⟨v, by rw [h.1], by rw [h.2]; exact ho, hb⟩
theorem rl_minus : rlB [45] = true ∧ rlL [45] = [] := by simp [rlB, rlL]
theorem str_eq (s : ByteArray) (h : s.data.toList ≠ [45]) : ¬ (s.toList = [45]) ∧ (s.toList == [45]) = false := by
  rw [ByteArray.toList_eq]
  exact ⟨h, by rw [beq_eq_false_iff_ne]; exact h⟩
theorem str_45 (s : ByteArray) (h : s.data.toList = [45]) : s = ⟨#[45]⟩ := by
  have := Lib.mk_data s
  rw [h] at this
  exact this.symm

set_option maxRecDepth 100000 in
set_option maxHeartbeats 2000000 in
theorem readList_spec (s : ByteArray) (w : World) (hs : s.size ≤ 1048576) :
    Calls Tryd.prog 30 #[.string s] w (RdPost s.data.toList w.heap.size w) := by
  by_cases h45 : s.data.toList = [45]
  · obtain rfl := str_45 s h45
    clear h45
    go_enter Tryd.func30, Tryd.ntmps30
    go_wp2
    go_ret2
    exact rdPost_ok (l := [45]) (zs := []) rl_minus (World.ownsRow_made _ _ _ (Nat.le_refl _) (by unfold maxLen; omega) rfl) ((Below.refl _ _).alloc (Nat.le_refl _) _)
  have hq := str_eq s h45
  obtain ⟨hq1, hq2⟩ := hq
  have H45 := Lib.hid h45
  clear h45
  obtain ⟨i0, hi, hz0, hz1, hz2⟩ := info_parts Tryd.infoI64
  go_enter Tryd.func30, Tryd.ntmps30
  go_wp2_with fail
  refine (split44 _ _ hs).mono ?_
  rintro e w1 ⟨v, rfl, hown, hb1⟩
  have hsp : 0 < (spl 44 s.data.toList).length := by rw [spl_len]; omega
  obtain ⟨g, cap, rfl, hg1, hg2, hcap⟩ := own_shape hown hsp
  have HO := Lib.hid hown
  have HB1 := Lib.hid hb1
  have hle1 := hb1.size
  clear hown hb1
  have hsz : (spl 44 s.data.toList).length ≤ 1048577 := by have := spl_size 44 s.data.toList; simp at this; omega
  by_cases h64 : (spl 44 s.data.toList).length ≤ 64
  · have e1 : decide (64 < ((spl 44 s.data.toList).length : Int)) = false := by simp; omega
    go_wp2
    obtain ⟨Z, hZ⟩ : ∃ Z, w1.heap.size = Z := ⟨_, rfl⟩
    have HR : Hid (RdInv s.data.toList 0 w.heap.size Z g cap (.slice (some ⟨w1.heap.size, 0, none⟩) 0 0) w (w1.alloc (.cells #[] 2))) := Lib.hid (by
      subst hZ
      exact ⟨by simpa using World.ownsRow_made _ _ _ (Nat.le_refl _) (by unfold maxLen; omega) rfl, HO.out.alloc _, fun j hj => by omega, HB1.out.alloc (by omega) _, by simp, hg2, by omega⟩)
    clear hZ
    go_loopw [5, 6] (fun v i wr => ∃ k : Nat, k ≤ (spl 44 s.data.toList).length ∧ i = .int .i64 k ∧ Hid (RdInv s.data.toList k w.heap.size Z g cap v w wr)) (fun _ i _ => (spl 44 s.data.toList).length - (intOf i).toNat)
    case atStart => exact ⟨0, by omega, rfl, HR⟩
    case round =>
      obtain ⟨k, hk, rfl, hR⟩ := hrel
      have hle := hR.out.le
      by_cases hlt : k < (spl 44 s.data.toList).length
      · have hcell := rd_cell hR.out hlt
        have hpl : ((spl 44 s.data.toList).getD k []).length ≤ 1048576 := by
          have := spl_piece 44 s.data.toList ((spl 44 s.data.toList).getD k []) (by simp [hlt])
          simp at this; simp; omega
        have HBAD := Lib.hid (rl_bad H45.out k hlt)
        have HSTEP := Lib.hid (fun v' w1 o n => @rd_step s.data.toList k w.heap.size Z g cap _ v' w wr w1 o n hR.out hlt)
        have ho2 := hR.out.out
        generalize hX : ((rlVals s.data.toList).take k).map iV = X at ho2
        have HX := Lib.hid hX
        have HO2 := Lib.hid ho2
        clear hX ho2
        have HBr := Lib.hid (hR.out.below)
        generalize hp : (spl 44 s.data.toList).getD k [] = p at *
        clear hp
        cases hn : numI p with
        | none =>
          have HF := Lib.hid (HBAD.out (rn_none hn))
          go_wp2_with ((with_reducible refine (number_tb _ _ hpl).mono ?_); rintro e w' ⟨rfl, rfl⟩)
          go_ret2
          exact rdPost_fail HF.out HBr.out
        | some n =>
          cases hin : inI n (-1000000000000) 1000000000000 with
          | false =>
            have HF := Lib.hid (HBAD.out (rn_out hn hin))
            go_wp2_with (first | ((with_reducible refine (number_tb _ _ hpl).mono ?_); rintro e w' ⟨rfl, rfl⟩) | ((with_reducible refine (in_any _ _ _ _).mono ?_); rintro e w' ⟨rfl, rfl⟩))
            go_ret2
            exact rdPost_fail HF.out HBr.out
          | true =>
            have HRN := Lib.hid (rn_some hn hin)
            go_wp2_with (first | ((with_reducible refine (number_tb _ _ hpl).mono ?_); rintro e w' ⟨rfl, rfl⟩) | ((with_reducible refine (in_any _ _ _ _).mono ?_); rintro e w' ⟨rfl, rfl⟩) | (at_builtin; refine wpList_app1 rfl _ _ 65 rfl Z 2 i0 (.int .i64 0) 8 Tryd.underlying65 hi hz0 hz1 hz2 rfl _ _ _ rfl HO2.out _ rfl (by first | rfl | simp) rfl (by omega) (by omega) hle ?_))
            intro v' w2 hown' hgrow
            have HN := Lib.hid (HSTEP.out _ _ _ _ HRN.out (by rw [HX.out]; exact hown') hgrow)
            clear hown' hgrow
            go_wp2
            go_roundw
            case rel => exact ⟨k + 1, by omega, by go_num, HN⟩
            case measure => simp [intOf]; omega
      · have HY := Lib.hid (rl_yes H45.out h64 (fun j hj => hR.out.good j (by omega)))
        have hke : k = (rlVals s.data.toList).length := by rw [rdvals_len]; omega
        have HO2 := hR.out.out
        rw [List.take_of_length_le (by omega)] at HO2
        rw [hke] at HO2
        have HO3 := Lib.hid HO2
        have HZ := Lib.hid hR.out.bs
        have HBr := Lib.hid (hR.out.below)
        clear HO2 hke
        go_wp2
        go_ret2
        exact rdPost_ok HY.out (own_base HO3.out HZ.out) HBr.out
  · have e1 : decide (64 < ((spl 44 s.data.toList).length : Int)) = true := by simp; omega
    have HF := Lib.hid (rl_long H45.out h64)
    go_wp2
    go_ret2
    exact rdPost_fail HF.out HB1.out
end Go.Proofs.YtmfchcaidfloaaaDoor
