/- Several texts in one: ListText, ListImpl, SplMath, Split, Words, MarkText. -/
import Derived.Test.YtmfchcaidfloaaaDoorK15
import Derived.Test.YtmfchcaidfloaaaDoorK1
import Derived.Test.YtmfchcaidfloaaaDoorK7
import Derived.Laws.Concat
import Derived.Lib.Join
import Derived.Test.YtmfchcaidfloaaaDoorShelfJoin
import Derived.Lib.Split
import Derived.Lib.SplitLaws
import Derived.Lib.IndexBytes
import Derived.Deep.RegionHeld3
namespace Go.Proofs.YtmfchcaidfloaaaDoor
open Go.ChangeShapes Go.WideShapes Go.ChangeAt Go.RowKit

/-- A list of bytes as a text. -/
def tb (l : List UInt8) : ByteArray := ⟨l.toArray⟩
theorem tb_size (l : List UInt8) : (tb l).size = l.length := by show l.toArray.size = _; simp
theorem tb_append (a b : List UInt8) : tb a ++ tb b = tb (a ++ b) := by unfold tb; rw [ByteArray.mk_append_mk]
theorem tb_data (l : List UInt8) : (tb l).data.toList = l := by simp [tb]
def jn (zs : List Int) : List UInt8 := Lib.join (zs.map Lib.itoa) [44]
def fitB (zs : List Int) : Bool := wiI 1000000000000 zs && decide (zs.length ≤ 64)
def listT (zs : List Int) : List UInt8 := if zs.length = 0 then [45] else jn zs
def listR (zs : List Int) : List UInt8 := if fitB zs then listT zs else []

theorem join_snoc (x : List UInt8) (r : List (List UInt8)) (y sep : List UInt8) : Lib.join (x :: (r ++ [y])) sep = Lib.join (x :: r) sep ++ (sep ++ y) := by
  rw [Lib.join_cons, Lib.join_cons]
  simp [Lib.joinTail]
theorem take_map_snoc (zs : List Int) (k : Nat) (h : k < zs.length) : zs.take (k + 1) = zs.take k ++ [zs.getD k 0] := by
  rw [List.take_succ_eq_append_getElem h]; simp [h]
theorem jn_first (zs : List Int) (h : 0 < zs.length) : jn (zs.take 1) = Lib.itoa (zs.getD 0 0) := by
  rw [take_map_snoc zs 0 h]; simp [jn, Lib.join_one]
theorem jn_next (zs : List Int) (k : Nat) (hk : 0 < k) (h : k < zs.length) : jn (zs.take (k + 1)) = jn (zs.take k) ++ [44] ++ Lib.itoa (zs.getD k 0) := by
  rw [take_map_snoc zs k h]
  unfold jn
  rw [List.map_append, List.map_cons, List.map_nil]
  cases hz : (zs.take k).map Lib.itoa with
  | nil =>
    have := congrArg List.length hz
    rw [List.length_map, List.length_take, List.length_nil] at this
    omega
  | cons x r => rw [List.cons_append, join_snoc, List.append_assoc]
theorem itoa_len (n : Int) (h1 : -9223372036854775808 ≤ n) (h2 : n ≤ 9223372036854775807) : (Lib.itoa n).length ≤ 20 := by
  by_cases h0 : n = 0
  · subst h0; rw [itoa_zero]; simp
  by_cases hn : n < 0
  · obtain ⟨m, rfl⟩ : ∃ m : Nat, n = -(m : Int) := ⟨n.natAbs, by omega⟩
    rw [itoa_neg m (by omega)]
    have := revD_len 19 m (by omega)
    simp; omega
  · obtain ⟨m, rfl⟩ : ∃ m : Nat, n = m := ⟨n.toNat, by omega⟩
    rw [itoa_pos m (by omega)]
    have := revD_len 19 m (by omega)
    simp; omega
theorem wi_at {m : Int} {zs : List Int} (h : wiI m zs = true) (k : Nat) (hk : k < zs.length) : -m ≤ zs.getD k 0 ∧ zs.getD k 0 ≤ m := by
  have := List.all_eq_true.1 h (zs.getD k 0) (by simp [hk])
  simpa using this
theorem jn_len (zs : List Int) (hw : wiI 1000000000000 zs = true) : ∀ k, k ≤ zs.length → (jn (zs.take k)).length ≤ 21 * k
  | 0, _ => by simp [jn, Lib.join_nil]
  | k + 1, h => by
    have hb := wi_at hw k (by omega)
    have hi := itoa_len (zs.getD k 0) (by omega) (by omega)
    by_cases hk : k = 0
    · subst hk; rw [jn_first zs (by omega)]; omega
    · rw [jn_next zs k (by omega) (by omega)]
      have := jn_len zs hw k (by omega)
      simp only [List.length_append, List.length_cons, List.length_nil]; omega
theorem wi_take_no {m : Int} {zs : List Int} {k : Nat} (hk : k < zs.length) (h : inI (zs.getD k 0) (-m) m = false) : wiI m zs = false := by
  unfold wiI
  rw [List.all_eq_false]
  exact ⟨zs.getD k 0, by simp [hk], by simpa [inI] using h⟩
theorem wi_yes {m : Int} {zs : List Int} (h : ∀ j, j < zs.length → inI (zs.getD j 0) (-m) m = true) : wiI m zs = true := by
  unfold wiI
  rw [List.all_eq_true]
  intro x hx
  obtain ⟨j, hj, rfl⟩ := List.getElem_of_mem hx
  have := h j hj
  simpa [inI, hj] using this

theorem dec_tb (n : Int) (w : World) (h1 : -9223372036854775808 ≤ n) (h2 : n ≤ 9223372036854775807) :
    Calls Tryd.prog 94 #[.int .i64 n] w fun e w' => e = .returned (.string (tb (Lib.itoa n))) ∧ Below w.heap.size w w' := l01Dec_any n w h1 h2
theorem add_tb (a b : List UInt8) (w : World) (h : a.length + b.length ≤ 1048576) : (Op.stringOp .add (tb a) (tb b)).run Tryd.prog w = .ok (.string (tb (a ++ b))) w := by
  rw [run_string_add_sum w _ _ (by rw [tb_size, tb_size]; omega), tb_append]
theorem add_comma (a : List UInt8) (w : World) (h : a.length ≤ 104857) : (Op.stringOp .add (tb a) ⟨#[44]⟩).run Tryd.prog w = .ok (.string (tb (a ++ [44]))) w := add_tb a [44] w (by simp; omega)
theorem ret_tb {a b : List UInt8} (h : a = b) : Ending.returned (.string (tb a)) = .returned (.string (tb b)) := by rw [h]
theorem tb_empty : tb [] = ⟨#[]⟩ := rfl

set_option maxHeartbeats 1000000 in
theorem list_any (b cap : Nat) (zs : List Int) (w : World) (hf : fitB zs = true) (h1 : IntsAt w b zs) :
    Calls Tryd.prog 56 #[.slice (some ⟨b, 0, none⟩) zs.length cap] w fun e w' => e = .returned (.string (tb (listT zs))) ∧ Below w.heap.size w w' := by
  have hf2 := hf
  simp only [fitB, Bool.and_eq_true, decide_eq_true_eq] at hf2
  obtain ⟨hw, hl⟩ := hf2
  have HW := Lib.hid hw
  have H1 := Lib.hid h1
  clear h1 hf hw
  unfold listT
  by_cases h0 : zs.length = 0
  · rw [if_pos h0]
    have e0 : ((zs.length : Int) == 0) = true := by rw [beq_iff_eq]; omega
    clear h0
    go_enter Tryd.func56, Tryd.ntmps56
    go_wp2
    go_ret
    exact ⟨rfl, Below.refl _ _⟩
  rw [if_neg h0]
  have e0 : ((zs.length : Int) == 0) = false := by rw [beq_eq_false_iff_ne]; omega
  clear h0
  go_enter Tryd.func56, Tryd.ntmps56
  go_wp2
  go_loopw [3, 4] (fun o i wr => ∃ k : Nat, k ≤ zs.length ∧ i = .int .i64 k ∧ o = .string (tb (jn (zs.take k))) ∧ Hid (Below w.heap.size w wr)) (fun _ i _ => zs.length - (intOf i).toNat)
  case atStart => exact ⟨0, by omega, rfl, rfl, Lib.hid (Below.refl _ _)⟩
  case round =>
    obtain ⟨k, hk, rfl, rfl, hb⟩ := hrel
    by_cases hlt : k < zs.length
    · have hcell : wr.cell? ⟨b, k, none⟩ = some (.int .i64 (zs.getD k 0)) := (hb.out.cell (p := ⟨b, k, none⟩) H1.out.1).trans (H1.out.2 k hlt)
      have hy := wi_at HW.out k hlt
      have hil := itoa_len (zs.getD k 0) (by omega) (by omega)
      have hjl := jn_len zs HW.out k (by omega)
      by_cases hk0 : k = 0
      · have HJ : Hid (jn (zs.take (k + 1)) = Lib.itoa (zs.getD k 0)) := Lib.hid (by subst hk0; exact jn_first zs hlt)
        have hz : jn (zs.take k) = [] := by subst hk0; simp [jn, Lib.join_nil]
        have hk0' : k ≤ 0 := by omega
        generalize zs.getD k 0 = y at *
        generalize jn (zs.take k) = J at *
        have ha2 : ∀ w, (Op.stringOp .add (tb J) (tb (Lib.itoa y))).run Tryd.prog w = .ok (.string (tb (Lib.itoa y))) w := fun w => by
          have := add_tb J (Lib.itoa y) w (by omega)
          rw [hz] at this ⊢
          exact this
        clear hz hk0
        go_wp2_with ((with_reducible refine (dec_tb _ _ (by omega) (by omega)).mono ?_); rintro e w' ⟨rfl, hb1⟩)
        go_roundw
        case rel => exact ⟨k + 1, by omega, by go_num, by rw [HJ.out], Lib.hid (hb.out.trans (hb1.mono hb.out.size))⟩
        case measure => simp [intOf]; omega
      · have HJ := Lib.hid (jn_next zs k (by omega) hlt)
        have hkp : 0 < k := by omega
        generalize zs.getD k 0 = y at *
        generalize jn (zs.take k) = J at *
        have ha1 := fun w => add_comma J w (by omega)
        have ha2 := fun w => add_tb (J ++ [44]) (Lib.itoa y) w (by simp; omega)
        go_wp2_with ((with_reducible refine (dec_tb _ _ (by omega) (by omega)).mono ?_); rintro e w' ⟨rfl, hb1⟩)
        go_roundw
        case rel => exact ⟨k + 1, by omega, by go_num, by rw [HJ.out]; simp, Lib.hid (hb.out.trans (hb1.mono hb.out.size))⟩
        case measure => simp [intOf]; omega
    · go_wp2
      go_ret
      exact ⟨ret_tb (by rw [List.take_of_length_le (by omega)]), hb.out⟩
end Go.Proofs.YtmfchcaidfloaaaDoor
namespace Go.Proofs.YtmfchcaidfloaaaDoor
open Go.ChangeShapes Go.WideShapes Go.ChangeAt Go.RowKit Go.Joins

theorem Tryd.infoStr : (Tryd.prog.info? 9).map (fun i => (i.zero, i.size, i.bytes)) = some (some (.string ⟨#[]⟩), 1, 16) := by kernel_rfl

/-- What is owned stays owned behind a call that leaves all older blocks alone. -/
theorem ownB_below {w w' : World} {base e size n B : Nat} {v : Value} {xs : List Value} (h : w.ownsRow base e size v n xs) (hb : Below B w w') (hB : w.heap.size ≤ B) : w'.ownsRow base e size v n xs := by
  have hlt := h.lt
  obtain ⟨h1, h2 | ⟨g, cap, cur, rfl, h3, h4, h5⟩⟩ := h
  · exact ⟨h1, Or.inl h2⟩
  · refine ⟨h1, Or.inr ⟨g, cap, cur, rfl, h3, ?_, h5⟩⟩
    rw [hb.block g (by have := (hlt g rfl).2; omega)]
    exact h4

/-- The loop: the first k texts are written. -/
structure TxInv (zs : List Int) (k B g : Nat) (w wr : World) : Prop where
  own : ∃ X, wr.ownsRow B 9 1 (.slice (some ⟨g, 0, none⟩) zs.length zs.length) zs.length X ∧ ∀ j, j < k → X[j]? = some (.string (tb (Lib.itoa (zs.getD j 0))))
  below : Below B w wr
  lt : B ≤ g ∧ g < wr.heap.size
theorem tx_call {zs : List Int} {k B g : Nat} {w wr w1 : World} (h : TxInv zs k B g w wr) (hb : Below wr.heap.size wr w1) (hBw : B ≤ wr.heap.size) : TxInv zs k B g w w1 := by
  obtain ⟨⟨X, h1, h2⟩, h3, h4⟩ := h
  exact ⟨⟨X, ownB_below h1 hb (Nat.le_refl _), h2⟩, h3.trans (hb.mono hBw), h4.1, by have := hb.size; omega⟩
theorem tx_step {zs : List Int} {k B g : Nat} {w wr : World} (h : TxInv zs k B g w wr) (hk : k < zs.length) : TxInv zs (k + 1) B g w (wr.setCell ⟨g, k, none⟩ (.string (tb (Lib.itoa (zs.getD k 0))))) := by
  obtain ⟨⟨X, h1, h2⟩, h3, h4⟩ := h
  have hX : X.length = zs.length := by have := h1.1; simpa using this
  obtain ⟨s1, s2⟩ := h1.stored k (.string (tb (Lib.itoa (zs.getD k 0))))
  refine ⟨⟨_, s1, fun j hj => ?_⟩, h3.setCell h4.1 _, h4.1, by have := s2.size; omega⟩
  by_cases e : j = k
  · subst e; rw [List.getElem?_set_self (by omega)]
  · rw [List.getElem?_set_ne (by omega)]; exact h2 j (by omega)
theorem tx_free {zs : List Int} {k B g : Nat} {w wr : World} (h : TxInv zs k B g w wr) (j : Nat) : wr.frozen? ⟨g, j, none⟩ = false := by
  obtain ⟨⟨X, h1, _⟩, _, _⟩ := h
  exact h1.frozenAt j
theorem tx_cell {zs : List Int} {k B g : Nat} {w wr : World} (h : TxInv zs k B g w wr) (j : Nat) (hj : j < zs.length) : ∃ v, wr.cell? ⟨g, j, none⟩ = some v := by
  obtain ⟨⟨X, h1, _⟩, _, _⟩ := h
  have hX : X.length = zs.length := by have := h1.1; simpa using this
  exact ⟨X[j]'(by omega), by rw [h1.cellAt j (by omega)]; simp⟩
theorem tx_end {zs : List Int} {k B g : Nat} {w wr : World} (h : TxInv zs k B g w wr) (hk : zs.length ≤ k) : ∀ (j : Nat) x, (zs.map fun z => tb (Lib.itoa z))[j]? = some x → wr.cell? ⟨g, 0 + j, none⟩ = some (.string x) := by
  obtain ⟨⟨X, h1, h2⟩, _, h4⟩ := h
  intro j x hx
  have hj : j < zs.length := by
    have := (List.getElem?_eq_some_iff.1 hx).1
    simpa using this
  rw [Nat.zero_add, h1.cellAt j (by omega), h2 j (by omega)]
  simp [hj] at hx
  simp [hj, hx]
theorem decimal_tb (n : Int) (w : World) (h1 : -9223372036854775808 ≤ n) (h2 : n ≤ 9223372036854775807) (ht : TabOk w) :
    Calls Tryd.prog 59 #[.int .i64 n] w fun e w' => e = .returned (.string (tb (Lib.itoa n))) ∧ Below w.heap.size w w' := decimal_impl n w h1 h2 ht
theorem join_any (g cap : Nat) (zs : List Int) (w : World) (hg : g < w.heap.size) (hcap : zs.length ≤ cap) (hw : wiI 1000000000000 zs = true) (hl : zs.length ≤ 64)
    (hc : ∀ (j : Nat) x, (zs.map fun z => tb (Lib.itoa z))[j]? = some x → w.cell? ⟨g, 0 + j, none⟩ = some (.string x)) :
    Calls Tryd.prog 53 #[.slice (some ⟨g, 0, none⟩) zs.length cap, .string ⟨#[44]⟩] w fun e w' => e = .returned (.string (tb (jn zs))) ∧ Below w.heap.size w w' := by
  have e1 : (zs.map fun z => tb (Lib.itoa z)).length = zs.length := by simp
  have e2 : (zs.map fun z => tb (Lib.itoa z)).map (·.data.toList) = zs.map Lib.itoa := by
    rw [List.map_map]; apply List.map_congr_left; intro z _; exact tb_data _
  have hj := jn_len zs hw zs.length (Nat.le_refl _)
  rw [List.take_length] at hj
  have := Tryd.strings_Join g 0 cap (zs.map fun z => tb (Lib.itoa z)) ⟨#[44]⟩ w hc hg (by omega) (by omega) (by rw [e2]; unfold jn at hj; show (Lib.join _ [44]).length ≤ _; omega)
  rw [e1, e2] at this
  exact this

set_option maxHeartbeats 1000000 in
theorem listText_impl (b cap : Nat) (zs : List Int) (w : World) (hl : zs.length ≤ 1048576) (h1 : IntsAt w b zs) (ht : TabOk w) :
    Calls Tryd.prog 29 #[.slice (some ⟨b, 0, none⟩) zs.length cap] w fun e w' => e = .returned (.string (tb (listR zs))) ∧ Below w.heap.size w w' := by
  have H1 := Lib.hid h1
  have HT := Lib.hid ht
  clear h1 ht
  unfold listR fitB
  by_cases h64 : zs.length ≤ 64
  · have e1 : decide (64 < (zs.length : Int)) = false := by simp; omega
    rw [decide_eq_true h64, Bool.and_true]
    cases hw : wiI 1000000000000 zs with
    | false =>
      go_enter Tryd.func29, Tryd.ntmps29
      go_wp2_with ((with_reducible refine (allWithin_any _ (by omega) (by omega) _ _ _ _ zs _ rfl (by omega) H1.out.plain).mono ?_); rintro e w' ⟨rfl, rfl⟩)
      go_ret
      exact ⟨rfl, Below.refl _ _⟩
    | true =>
      have HW := Lib.hid hw
      rw [if_pos rfl]
      unfold listT
      by_cases h0 : zs.length = 0
      · rw [if_pos h0]
        have e0 : ((zs.length : Int) == 0) = true := by rw [beq_iff_eq]; omega
        clear h0
        go_enter Tryd.func29, Tryd.ntmps29
        go_wp2_with ((with_reducible refine (allWithin_any _ (by omega) (by omega) _ _ _ _ zs _ rfl (by omega) H1.out.plain).mono ?_); rintro e w' ⟨rfl, rfl⟩)
        go_ret
        exact ⟨rfl, Below.refl _ _⟩
      rw [if_neg h0]
      have e0 : ((zs.length : Int) == 0) = false := by rw [beq_eq_false_iff_ne]; omega
      clear h0
      obtain ⟨i0, hi, hz0, hz1, hz2⟩ := info_parts Tryd.infoStr
      go_enter Tryd.func29, Tryd.ntmps29
      go_wp2_with (first | ((with_reducible refine (allWithin_any _ (by omega) (by omega) _ _ _ _ zs _ rfl (by omega) H1.out.plain).mono ?_); rintro e w' ⟨rfl, rfl⟩) | (refine wpList_make_full _ rfl _ _ 93 rfl w.heap.size 9 i0 (.string ⟨#[]⟩) 1 Tryd.underlying93 hi hz0 hz1 .i64 .i64 _ _ zs.length rfl rfl rfl rfl (by rw [hz2]; omega) (by unfold maxLen; omega) (Nat.le_refl _) ?_; intro w1 hown hgrow))
      have HI : Hid (TxInv zs 0 w.heap.size w.heap.size w w1) := Lib.hid ⟨⟨_, hown, fun j hj => by omega⟩, (Below.refl _ _).grown hgrow (Nat.le_refl _) (fun k hk => by cases hk), Nat.le_refl _, (hown.lt _ rfl).2⟩
      clear hown hgrow
      go_wp2
      go_loopw [22] (fun i wr => ∃ k : Nat, k ≤ zs.length ∧ i = .int .i64 k ∧ Hid (TxInv zs k w.heap.size w.heap.size w wr)) (fun i _ => zs.length - (intOf i).toNat)
      case atStart => exact ⟨0, by omega, rfl, HI⟩
      case round =>
        obtain ⟨k, hk, rfl, hI⟩ := hrel
        have HTr := Lib.hid (HT.out.below hI.out.below (Nat.le_refl _))
        by_cases hlt : k < zs.length
        · have hcell : wr.cell? ⟨b, k, none⟩ = some (.int .i64 (zs.getD k 0)) := (hI.out.below.cell (p := ⟨b, k, none⟩) H1.out.1).trans (H1.out.2 k hlt)
          have hy := wi_at HW.out k hlt
          have hBw : w.heap.size ≤ wr.heap.size := by have := hI.out.lt; omega
          obtain ⟨y, hyy⟩ : ∃ y, zs.getD k 0 = y := ⟨_, rfl⟩
          have HY := Lib.hid hyy
          rw [hyy] at hcell hy
          clear hyy
          go_wp2_with ((with_reducible refine (decimal_tb _ _ (by omega) (by omega) HTr.out).mono ?_); rintro e w2 ⟨rfl, hb1⟩; have hI1 := Lib.hid (tx_call hI.out hb1 hBw); obtain ⟨v0, hdst⟩ := tx_cell hI1.out k hlt; have hfree := tx_free hI1.out k; clear hb1)
          have HN := Lib.hid (tx_step hI1.out hlt)
          have HN2 : Hid (TxInv zs (k + 1) w.heap.size w.heap.size w (w2.setCell ⟨w.heap.size, k, none⟩ (.string (tb (Lib.itoa y))))) := Lib.hid (by rw [← HY.out]; exact HN.out)
          go_roundw
          case rel => exact ⟨k + 1, by omega, by go_num, HN2⟩
          case measure => simp [intOf]; omega
        · have HE := Lib.hid (tx_end hI.out (by omega))
          have HB := Lib.hid hI.out.below
          have hg := hI.out.lt.2
          go_wp2_with ((with_reducible refine (join_any _ _ zs _ hg (Nat.le_refl _) HW.out h64 HE.out).mono ?_); rintro e w2 ⟨rfl, hb1⟩)
          go_ret
          exact ⟨rfl, HB.out.trans (hb1.mono (by omega))⟩
  · have e1 : decide (64 < (zs.length : Int)) = true := by simp; omega
    rw [decide_eq_false h64, Bool.and_false]
    go_enter Tryd.func29, Tryd.ntmps29
    go_wp2
    go_ret
    exact ⟨rfl, Below.refl _ _⟩
end Go.Proofs.YtmfchcaidfloaaaDoor
namespace Go.Proofs.YtmfchcaidfloaaaDoor

def spl (c : UInt8) : List UInt8 → List (List UInt8)
  | [] => [[]]
  | x :: r => if x = c then [] :: spl c r else match spl c r with
    | p :: ps => (x :: p) :: ps
    | [] => [[x]]
theorem spl_ne (c : UInt8) (l : List UInt8) : spl c l ≠ [] := by
  cases l with
  | nil => simp [spl]
  | cons x r =>
    unfold spl
    split
    · simp
    · split <;> simp
theorem spl_last (c : UInt8) : ∀ (p : List UInt8), c ∉ p → spl c p = [p]
  | [], _ => rfl
  | x :: p, h => by
    have h1 : x ≠ c := fun e => h (by simp [e])
    have h2 : c ∉ p := fun e => h (by simp [e])
    rw [spl, if_neg h1, spl_last c p h2]
theorem spl_first (c : UInt8) : ∀ (p r : List UInt8), c ∉ p → spl c (p ++ c :: r) = p :: spl c r
  | [], r, _ => by rw [List.nil_append, spl, if_pos rfl]
  | x :: p, r, h => by
    have h1 : x ≠ c := fun e => h (by simp [e])
    have h2 : c ∉ p := fun e => h (by simp [e])
    rw [List.cons_append, spl, if_neg h1, spl_first c p r h2]
theorem idx_split (c : UInt8) : ∀ (l : List UInt8), (Lib.indexByte l c = -1 ∧ c ∉ l) ∨ ∃ p r, l = p ++ c :: r ∧ c ∉ p ∧ Lib.indexByte l c = (p.length : Int)
  | [] => Or.inl ⟨rfl, by simp⟩
  | x :: l => by
    by_cases hx : x = c
    · subst hx
      exact Or.inr ⟨[], l, rfl, by simp, by rw [Lib.indexByte]; simp⟩
    · have hx2 : (x == c) = false := by simpa using hx
      rcases idx_split c l with ⟨h1, h2⟩ | ⟨p, r, rfl, h2, h3⟩
      · left
        refine ⟨by rw [Lib.indexByte, hx2, h1]; rfl, ?_⟩
        intro h
        rcases List.mem_cons.1 h with e | e
        · exact hx e.symm
        · exact h2 e
      · right
        refine ⟨x :: p, r, rfl, ?_, ?_⟩
        · intro h
          rcases List.mem_cons.1 h with e | e
          · exact hx e.symm
          · exact h2 e
        · have h4 : ((p.length : Int) == -1) = false := by rw [beq_eq_false_iff_ne]; omega
          rw [Lib.indexByte, hx2, h3, h4]
          simp
theorem splitK_spl (c : UInt8) : ∀ (k : Nat) (l : List UInt8), l.count c ≤ k → Lib.splitK [c] 0 k l = spl c l
  | 0, l, h => by
    have : c ∉ l := List.count_eq_zero.1 (by omega)
    rw [spl_last c l this]; rfl
  | k + 1, l, h => by
    rw [Lib.splitK, Lib.index_one]
    rcases idx_split c l with ⟨h1, h2⟩ | ⟨p, r, rfl, h2, h3⟩
    · rw [h1, spl_last c l h2]; rfl
    · have h4 : ((p.length : Int) == -1) = false := by rw [beq_eq_false_iff_ne]; omega
      rw [h3, h4, spl_first c p r h2]
      have e1 : (p ++ c :: r).take ((p.length : Int).toNat + 0) = p := by simp
      have e2 : (p ++ c :: r).drop ((p.length : Int).toNat + [c].length) = r := by
        have : (p.length : Int).toNat + [c].length = p.length + 1 := by simp
        rw [this, List.drop_append]
        simp
      have h5 : r.count c ≤ k := by
        rw [List.count_append, List.count_cons_self] at h
        omega
      rw [e1, e2, splitK_spl c k r h5]
      simp
theorem splitK_len (c : UInt8) : ∀ (k : Nat) (l : List UInt8), (Lib.splitK [c] 0 k l).length = min k (l.count c) + 1
  | 0, l => by simp [Lib.splitK]
  | k + 1, l => by
    rw [Lib.splitK, Lib.index_one]
    rcases idx_split c l with ⟨h1, h2⟩ | ⟨p, r, rfl, h2, h3⟩
    · rw [h1, List.count_eq_zero.2 h2]; simp
    · have h4 : ((p.length : Int) == -1) = false := by rw [beq_eq_false_iff_ne]; omega
      rw [h3, h4]
      have e2 : (p ++ c :: r).drop ((p.length : Int).toNat + [c].length) = r := by
        have : (p.length : Int).toNat + [c].length = p.length + 1 := by simp
        rw [this, List.drop_append]
        simp
      simp only [Bool.false_eq_true, if_false, List.length_cons]
      rw [show (p ++ c :: r).drop ((p.length : Int).toNat + ([].length + 1)) = r from e2, splitK_len c k r, List.count_append, List.count_cons_self, List.count_eq_zero.2 h2]
      omega
theorem spl_len (c : UInt8) (l : List UInt8) : (spl c l).length = l.count c + 1 := by
  rw [← splitK_spl c (l.count c) l (Nat.le_refl _), splitK_len]; omega
theorem spl_size (c : UInt8) (l : List UInt8) : (spl c l).length ≤ l.length + 1 := by
  rw [spl_len]; have := List.count_le_length (a := c) (l := l); omega
theorem spl_piece (c : UInt8) : ∀ (l : List UInt8) (p : List UInt8), p ∈ spl c l → p.length ≤ l.length
  | [], p, h => by simp [spl] at h; subst h; simp
  | x :: r, p, h => by
    unfold spl at h
    split at h
    · rcases List.mem_cons.1 h with e | e
      · subst e; simp
      · have := spl_piece c r p e; simp; omega
    · split at h
      · rename_i q qs hq
        rcases List.mem_cons.1 h with e | e
        · subst e
          have := spl_piece c r q (by rw [hq]; simp)
          simp; omega
        · have := spl_piece c r p (by rw [hq]; simp [e])
          simp; omega
      · rename_i hq; exact absurd hq (spl_ne c r)
end Go.Proofs.YtmfchcaidfloaaaDoor
namespace Go.Proofs.YtmfchcaidfloaaaDoor
open Go.ChangeShapes Go.WideShapes Go.ChangeAt Go.RowKit

def sV (p : List UInt8) : Value := .string (tb p)
theorem ext_tb (s : ByteArray) (a b : Nat) : s.extract a b = tb ((s.data.toList.drop a).take (b - a)) := Lib.extract_eq s a b

structure SplInv (c : UInt8) (s : ByteArray) (D : List (List UInt8)) (f i base : Nat) (v : Value) (w wr : World) : Prop where
  split : spl c s.data.toList = D ++ spl c (s.data.toList.drop f)
  free : c ∉ (s.data.toList.drop f).take (i - f)
  own : wr.ownsRow base 9 1 v D.length (D.map sV)
  below : Below base w wr
  le : base ≤ wr.heap.size
  few : D.length ≤ f

theorem take_step (s : ByteArray) (a k : Nat) (ha : a ≤ k) (h : k < s.size) : (s.data.toList.drop a).take (k + 1 - a) = (s.data.toList.drop a).take (k - a) ++ [s[k]] := by
  rw [show k + 1 - a = (k - a) + 1 by omega, List.take_succ_eq_append_getElem (by rw [List.length_drop]; simp; omega), List.getElem_drop]
  congr 2
  have : a + (k - a) = k := by omega
  simp only [this]
  rfl
theorem drop_split (s : ByteArray) (a k : Nat) (ha : a ≤ k) (h : k < s.size) : s.data.toList.drop a = (s.data.toList.drop a).take (k - a) ++ s[k] :: s.data.toList.drop (k + 1) := by
  have e := List.take_append_drop (k + 1 - a) (s.data.toList.drop a)
  rw [take_step s a k ha h, List.drop_drop, show a + (k + 1 - a) = k + 1 by omega] at e
  rw [List.append_assoc, List.singleton_append] at e
  exact e.symm
theorem spl_go {c : UInt8} {s : ByteArray} {D : List (List UInt8)} {f i base : Nat} {v : Value} {w wr : World} (h : SplInv c s D f i base v w wr) (hf : f ≤ i) (hi : i < s.size) (hc : s[i] ≠ c) : SplInv c s D f (i + 1) base v w wr := by
  refine ⟨h.split, ?_, h.own, h.below, h.le, h.few⟩
  rw [take_step s f i hf hi]
  intro hm
  rcases List.mem_append.1 hm with e | e
  · exact h.free e
  · exact hc (List.mem_singleton.1 e).symm
theorem spl_cut {c : UInt8} {s : ByteArray} {D : List (List UInt8)} {f i base : Nat} {v v' : Value} {w wr w1 : World} {o : Obj} (h : SplInv c s D f i base v w wr) (hf : f ≤ i) (hi : i < s.size) (hc : s[i] = c)
    (hown : w1.ownsRow base 9 1 v' (D.length + 1) (D.map sV ++ [.string (s.extract f i)])) (hg : (wr.alloc o).grownBy w1 v.ownBlock) :
    SplInv c s (D ++ [(s.data.toList.drop f).take (i - f)]) (i + 1) (i + 1) base v' w w1 := by
  have hsz := hg.size
  have hfew := h.few
  refine ⟨?_, by simp, ?_, below_app h.below (Nat.le_refl _) h.le h.own hg, by have := h.le; simp at hsz; omega, by simp; omega⟩
  · rw [h.split]
    have e : spl c (s.data.toList.drop f) = (s.data.toList.drop f).take (i - f) :: spl c (s.data.toList.drop (i + 1)) := by
      have e1 := drop_split s f i hf hi
      rw [hc] at e1
      rw [e1]
      have e2 := spl_first c ((s.data.toList.drop f).take (i - f)) (s.data.toList.drop (i + 1)) h.free
      rw [e2, ← e1]
    rw [e]
    simp
  · rw [ext_tb] at hown
    simpa [sV] using hown
theorem spl_done {c : UInt8} {s : ByteArray} {D : List (List UInt8)} {f i base : Nat} {v v' : Value} {w wr w1 : World} {o : Obj} (h : SplInv c s D f i base v w wr) (hi : s.size ≤ i)
    (hown : w1.ownsRow base 9 1 v' (D.length + 1) (D.map sV ++ [.string (s.extract f s.size)])) (hg : (wr.alloc o).grownBy w1 v.ownBlock) :
    w1.ownsRow base 9 1 v' (spl c s.data.toList).length ((spl c s.data.toList).map sV) ∧ Below base w w1 := by
  refine ⟨?_, below_app h.below (Nat.le_refl _) h.le h.own hg⟩
  have e1 : (s.data.toList.drop f).take (i - f) = s.data.toList.drop f := List.take_of_length_le (by rw [List.length_drop]; simp; omega)
  have hfr := h.free
  rw [e1] at hfr
  rw [h.split, spl_last c _ hfr]
  rw [ext_tb, List.take_of_length_le (by rw [List.length_drop]; simp)] at hown
  simpa [sV] using hown

set_option maxRecDepth 100000 in
set_option maxHeartbeats 1000000 in
theorem split_any (s : ByteArray) (c : UInt8) (w : World) (hs : s.size ≤ 1048576) :
    Calls Tryd.prog 60 #[.string s, .int .u8 (c.toNat : Int)] w fun e w' => ∃ v, e = .returned v ∧ w'.ownsRow w.heap.size 9 1 v (spl c s.data.toList).length ((spl c s.data.toList).map sV) ∧ Below w.heap.size w w' := by
  obtain ⟨i0, hi, hz0, hz1, hz2⟩ := info_parts Tryd.infoStr
  go_enter Tryd.func60, Tryd.ntmps60
  go_wp2
  go_loopw [5, 6, 7] (fun v f i wr => ∃ (D : List (List UInt8)) (F I : Nat), F ≤ I ∧ I ≤ s.size ∧ f = .int .i64 F ∧ i = .int .i64 I ∧ Hid (SplInv c s D F I w.heap.size v w wr)) (fun _ _ i _ => s.size - (intOf i).toNat)
  case atStart => exact ⟨[], 0, 0, by omega, by omega, rfl, rfl, Lib.hid ⟨by simp, by simp, World.ownsRow_made _ _ _ (Nat.le_refl _) (by unfold maxLen; omega) rfl, (Below.refl _ _).alloc (Nat.le_refl _) _, by simp, by simp⟩⟩
  case round =>
    obtain ⟨D, F, I, hFI, hI, rfl, rfl, hD⟩ := hrel
    have hle := hD.out.le
    have hfew := hD.out.few
    by_cases hlt : I < s.size
    · by_cases hc : s[I] = c
      · have t1 : ((s[I].toNat : Int) == (c.toNat : Int)) = true := by rw [hc]; simp
        have HC := Lib.hid hc
        clear hc
        go_wp2_with (at_builtin; refine wpList_app1 rfl _ _ 93 rfl w.heap.size 9 i0 (.string ⟨#[]⟩) 16 Tryd.underlying93 hi hz0 hz1 hz2 rfl _ _ _ rfl hD.out.own _ rfl (by first | rfl | simp) rfl (by omega) (by omega) hle ?_)
        intro v' w1 hown' hgrow
        have HN := Lib.hid (spl_cut hD.out hFI hlt HC.out hown' hgrow)
        clear hown' hgrow
        go_wp2
        go_roundw
        case rel => exact ⟨_, I + 1, I + 1, by omega, by omega, by go_num, by go_num, HN⟩
        case measure => simp [intOf]; omega
      · have t1 : ((s[I].toNat : Int) == (c.toNat : Int)) = false := by
          rw [beq_eq_false_iff_ne]
          intro e
          exact hc (by rw [← UInt8.toNat_inj]; omega)
        have HN := Lib.hid (spl_go hD.out hFI hlt hc)
        clear hc
        go_wp2
        go_roundw
        case rel => exact ⟨D, F, I + 1, by omega, by omega, rfl, by go_num, HN⟩
        case measure => simp [intOf]; omega
    · go_wp2_with (at_builtin; refine wpList_app1 rfl _ _ 93 rfl w.heap.size 9 i0 (.string ⟨#[]⟩) 16 Tryd.underlying93 hi hz0 hz1 hz2 rfl _ _ _ rfl hD.out.own _ rfl (by first | rfl | simp) rfl (by omega) (by omega) hle ?_)
      intro v' w1 hown' hgrow
      have HE := Lib.hid (spl_done hD.out (by omega) hown' hgrow)
      clear hown' hgrow
      go_wp2
      go_ret
      exact ⟨_, rfl, HE.out.1, HE.out.2⟩
end Go.Proofs.YtmfchcaidfloaaaDoor
namespace Go.Proofs.YtmfchcaidfloaaaDoor
open Go.ChangeShapes Go.WideShapes Go.ChangeAt Go.RowKit

def neB (p : List UInt8) : Bool := !p.isEmpty
def wd (l : List UInt8) : List (List UInt8) := (spl 32 l).filter neB
theorem tb_empty_no (p : List UInt8) (h : neB p = true) : ¬ ((tb p).toList = []) ∧ (tb p).toList.isEmpty = false := by
  rw [ByteArray.toList_eq, tb_data]
  unfold neB at h
  cases p <;> simp_all
theorem tb_empty_yes (p : List UInt8) (h : neB p = false) : (tb p).toList = [] ∧ (tb p).toList.isEmpty = true := by
  rw [ByteArray.toList_eq, tb_data]
  unfold neB at h
  cases p <;> simp_all
theorem filter_step (L : List (List UInt8)) (k : Nat) (hk : k < L.length) : (L.take (k + 1)).filter neB = (L.take k).filter neB ++ (if neB (L.getD k []) then [L.getD k []] else []) := by
  have e : L.take (k + 1) = L.take k ++ [L.getD k []] := by
    rw [List.take_succ_eq_append_getElem hk]; simp [hk]
  rw [e, List.filter_append]
  congr 1
  by_cases h : neB (L.getD k []) = true
  · rw [if_pos h, List.filter_cons, if_pos h]; rfl
  · rw [if_neg h, List.filter_cons, if_neg h]; rfl

/-- The loop: of the first k pieces those that are not empty are in the slice; the pieces lie in the block g. -/
structure SwInv (L : List (List UInt8)) (k base base2 g : Nat) (v : Value) (w wr : World) : Prop where
  out : wr.ownsRow base2 9 1 v ((L.take k).filter neB).length (((L.take k).filter neB).map sV)
  src : ∀ j, j < L.length → wr.cell? ⟨g, j, none⟩ = some (.string (tb (L.getD j [])))
  below : Below base w wr
  le : base2 ≤ wr.heap.size
  lt : g < base2
  bs : base ≤ base2
theorem sw_len {L : List (List UInt8)} {k base base2 g : Nat} {v : Value} {w wr : World} (_h : SwInv L k base base2 g v w wr) : ((L.take k).filter neB).length ≤ L.length := by
  have h1 := List.length_filter_le neB (L.take k)
  rw [List.length_take] at h1
  omega
theorem sw_skip {L : List (List UInt8)} {k base base2 g : Nat} {v : Value} {w wr : World} (h : SwInv L k base base2 g v w wr) (hk : k < L.length) (hn : neB (L.getD k []) = false) : SwInv L (k + 1) base base2 g v w wr := by
  refine ⟨?_, h.src, h.below, h.le, h.lt, h.bs⟩
  rw [filter_step L k hk, hn]
  simpa using h.out
theorem sw_take {L : List (List UInt8)} {k base base2 g : Nat} {v v' : Value} {w wr w1 : World} {o : Obj} (h : SwInv L k base base2 g v w wr) (hk : k < L.length) (hn : neB (L.getD k []) = true)
    (hown : w1.ownsRow base2 9 1 v' (((L.take k).filter neB).length + 1) (((L.take k).filter neB).map sV ++ [.string (tb (L.getD k []))])) (hg : (wr.alloc o).grownBy w1 v.ownBlock) : SwInv L (k + 1) base base2 g v' w w1 := by
  have hsz := hg.size
  refine ⟨?_, fun j hj => ?_, below_app h.below h.bs (Nat.le_trans h.bs h.le) h.out hg, by have := h.le; simp at hsz; omega, h.lt, h.bs⟩
  · rw [filter_step L k hk, hn, if_pos rfl, List.length_append, List.map_append]
    exact hown
  · have hlt := h.lt
    have hle := h.le
    refine hg.cell ?_ ?_
    · rw [← h.src j hj]
      exact ((Below.refl base2 wr).alloc hle o).cell (p := ⟨g, j, none⟩) hlt
    · intro e
      have h3 := (h.out.lt g e.symm).1
      omega
theorem sw_end {L : List (List UInt8)} {k base base2 g : Nat} {v : Value} {w wr : World} (h : SwInv L k base base2 g v w wr) (hk : L.length ≤ k) : wr.ownsRow base2 9 1 v (L.filter neB).length ((L.filter neB).map sV) := by
  have := h.out
  rw [List.take_of_length_le hk] at this
  exact this
theorem split32 (s : ByteArray) (w : World) (hs : s.size ≤ 1048576) :
    Calls Tryd.prog 60 #[.string s, .int .u8 32] w fun e w' => ∃ v, e = .returned v ∧ w'.ownsRow w.heap.size 9 1 v (spl 32 s.data.toList).length ((spl 32 s.data.toList).map sV) ∧ Below w.heap.size w w' := split_any s 32 w hs
/-- The answer: the words, in a slice that the call owns. -/
def WdPost (l : List UInt8) (B : Nat) (w : World) (e : Ending) (w' : World) : Prop :=
  ∃ v, e = .returned v ∧ w'.ownsRow B 9 1 v (wd l).length ((wd l).map sV) ∧ Below w.heap.size w w'
theorem own_baseW {w : World} {b b' e size n : Nat} {v : Value} {xs : List Value} (h : w.ownsRow b e size v n xs) (hb : b' ≤ b) : w.ownsRow b' e size v n xs := by
  obtain ⟨h1, h2 | ⟨g, cap, cur, rfl, h3, h4⟩⟩ := h
  · exact ⟨h1, Or.inl h2⟩
  · exact ⟨h1, Or.inr ⟨g, cap, cur, rfl, by omega, h4⟩⟩

theorem piecesW (s : ByteArray) : Lib.splitB ⟨#[32]⟩ 0 (Lib.countB s ⟨#[32]⟩) s = (spl 32 s.data.toList).map tb ∧ Lib.countB s ⟨#[32]⟩ + 1 = (spl 32 s.data.toList).length := by
  have hc : Lib.countB s ⟨#[32]⟩ = s.data.toList.count 32 := Lib.count_one 32 s.data.toList
  have e1 := Lib.splitB_data ⟨#[32]⟩ 0 (Lib.countB s ⟨#[32]⟩) s
  have e2 : Lib.splitK [32] 0 (Lib.countB s ⟨#[32]⟩) s.data.toList = spl 32 s.data.toList := splitK_spl 32 _ _ (by omega)
  have e3 : (Lib.splitB ⟨#[32]⟩ 0 (Lib.countB s ⟨#[32]⟩) s).map (·.data.toList) = spl 32 s.data.toList := e1.trans e2
  refine ⟨?_, by rw [spl_len, hc]⟩
  rw [← e3, List.map_map]
  have : (tb ∘ fun x : ByteArray => x.data.toList) = id := by
    funext x
    exact Lib.mk_data x
  rw [this, List.map_id]
def MaxOkW (w : World) : Prop := 6 < w.heap.size ∧ ∃ m, w.cell? ⟨6, 0, none⟩ = some (.int .i64 m)
theorem MaxOkW.below {B : Nat} {w w' : World} (h : MaxOkW w) (hb : Below B w w') (hB : w.heap.size ≤ B) : MaxOkW w' := by
  obtain ⟨h1, m, h2⟩ := h
  have hs := hb.size
  exact ⟨by omega, m, (hb.cell (p := ⟨6, 0, none⟩) (by simp; omega)).trans h2⟩
end Go.Proofs.YtmfchcaidfloaaaDoor
namespace Go.Proofs.YtmfchcaidfloaaaDoor
open Go.ChangeShapes Go.WideShapes Go.ChangeAt Go.RowKit

def mtL (k : Nat) : List UInt8 := 109 :: Lib.decDigits k
def MtInv (k m : Nat) (O : List UInt8) : Prop := revD k = O.reverse ++ revD m ∧ O.length ≤ 20
theorem mt_step {k m : Nat} {O : List UInt8} (h : MtInv k m O) (hm : m ≠ 0) (hk : k < 10 ^ 20) : MtInv k (m / 10) (UInt8.ofNat (48 + m % 10) :: O) := by
  obtain ⟨h1, _⟩ := h
  have e : revD k = (UInt8.ofNat (48 + m % 10) :: O).reverse ++ revD (m / 10) := by rw [h1, revD_pos m hm]; simp
  refine ⟨e, ?_⟩
  have := congrArg List.length e
  have h2 := revD_len 20 k hk
  rw [List.length_append, List.length_reverse] at this
  omega
theorem mt_end {k : Nat} {O : List UInt8} (h : MtInv k 0 O) (hk : k ≠ 0) : O = Lib.decDigits k := by
  have := h.1
  rw [revD_zero, List.append_nil] at this
  rw [dec_rev k hk, this, List.reverse_reverse]
theorem conv1 (c : UInt8) (w : World) (t : TypeId) (n : Int) (hn : n = (c.toNat : Int)) : (convert 129 9 (.slice (some ⟨w.heap.size, 0, none⟩) 1 1)).run Tryd.prog (w.alloc (.cells #[.int .u8 n] t)) = .ok (.string (tb [c])) (w.alloc (.cells #[.int .u8 n] t)) := by
  subst hn
  refine run_convert_bytes_back (P := Tryd.prog) (w.alloc (.cells #[.int .u8 (c.toNat : Int)] t)) 129 9 5 ⟨w.heap.size, 0, none⟩ 1 [c] Tryd.underlying129 Tryd.underlying5 Tryd.underlying9 (fun j hj => ?_)
  match j, hj with
  | 0, _ => simp [Addr.add]

def StrsAt (w : World) (g : Nat) (L : List (List UInt8)) : Prop := ∀ j, j < L.length → w.cell? ⟨g, j, none⟩ = some (.string (tb (L.getD j [])))
/-- The slice v of n places holds the marks 1 .. n. -/
def MarkedS (w : World) (base : Nat) (v : Value) (n : Nat) : Prop := ∃ X, w.ownsRow base 9 1 v n X ∧ ∀ t, t < n → X[t]? = some (.string (tb (mtL (1 + t))))
structure MsInv (k n base g cap : Nat) (w wr : World) : Prop where
  own : ∃ X, wr.ownsRow base 9 1 (.slice (some ⟨g, 0, none⟩) n cap) n X ∧ ∀ t, t < k → X[t]? = some (.string (tb (mtL (1 + t))))
  below : Below base w wr
  lt : base ≤ g
theorem ms_call {k n base g cap : Nat} {w wr w1 : World} (h : MsInv k n base g cap w wr) (hb : Below wr.heap.size wr w1) : MsInv k n base g cap w w1 := by
  obtain ⟨⟨X, h1, h2⟩, h3, h4⟩ := h
  have := (h1.lt g rfl).2
  exact ⟨⟨X, ownB_below h1 hb (Nat.le_refl _), h2⟩, h3.trans (hb.mono (by omega)), h4⟩
theorem ms_step {k n base g cap : Nat} {w wr : World} (h : MsInv k n base g cap w wr) (hk : k < n) : MsInv (k + 1) n base g cap w (wr.setCell ⟨g, k, none⟩ (.string (tb (mtL (1 + k))))) := by
  obtain ⟨⟨X, h1, h2⟩, h3, h4⟩ := h
  have hX : X.length = n := by have := h1.1; simpa using this
  obtain ⟨s1, s2⟩ := h1.stored k (.string (tb (mtL (1 + k))))
  refine ⟨⟨_, s1, fun j hj => ?_⟩, h3.setCell h4 _, h4⟩
  by_cases e : j = k
  · subst e; rw [List.getElem?_set_self (by omega)]
  · rw [List.getElem?_set_ne (by omega)]; exact h2 j (by omega)
theorem ms_free {k n base g cap : Nat} {w wr : World} (h : MsInv k n base g cap w wr) (j : Nat) : wr.frozen? ⟨g, j, none⟩ = false := by
  obtain ⟨⟨X, h1, _⟩, _, _⟩ := h
  exact h1.frozenAt j
theorem ms_cell {k n base g cap : Nat} {w wr : World} (h : MsInv k n base g cap w wr) (j : Nat) (hj : j < n) : ∃ v, wr.cell? ⟨g, j, none⟩ = some v := by
  obtain ⟨⟨X, h1, _⟩, _, _⟩ := h
  have hX : X.length = n := by have := h1.1; simpa using this
  exact ⟨X[j]'(by omega), by rw [h1.cellAt j (by omega)]; simp⟩
end Go.Proofs.YtmfchcaidfloaaaDoor
