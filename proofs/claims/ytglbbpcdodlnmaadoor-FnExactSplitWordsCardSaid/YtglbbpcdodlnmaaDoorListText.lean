/- ListText of spec: the text of a list of numbers. -/
import Derived.Test.YtglbbpcdodlnmaaDoorInts
import Derived.Test.YtglbbpcdodlnmaaDoorDec
import Derived.Test.YtglbbpcdodlnmaaDoorIn
import Derived.Test.YtglbbpcdodlnmaaDoorLeast
import Derived.Laws.Concat
import Derived.Lib.Join
namespace Go.Proofs.YtglbbpcdodlnmaaDoor
open Go.ChangeShapes Go.WideShapes Go.ChangeAt Go.RowKit

/-- A list of bytes as a text. -/
def tb (l : List UInt8) : ByteArray := ⟨l.toArray⟩
theorem tb_size (l : List UInt8) : (tb l).size = l.length := by show l.toArray.size = _; simp
theorem tb_append (a b : List UInt8) : tb a ++ tb b = tb (a ++ b) := by unfold tb; rw [ByteArray.mk_append_mk]
theorem tb_data (l : List UInt8) : (tb l).data.toList = l := by simp [tb]
def jn (zs : List Int) : List UInt8 := Lib.join (zs.map Lib.itoa) [44]
def fitB (zs : List Int) : Bool := wiI 1000000000000 zs && decide (zs.length ≤ 64)
def listT (zs : List Int) : List UInt8 := if zs.length = 0 then [45] else jn zs
def listR (zs : List Int) : List UInt8 := if fitB zs then listT zs else []

theorem join_snoc (x : List UInt8) (r : List (List UInt8)) (y sep : List UInt8) : Lib.join (x :: (r ++ [y])) sep = Lib.join (x :: r) sep ++ (sep ++ y) := by
  rw [Lib.join_cons, Lib.join_cons]
  simp [Lib.joinTail]
theorem take_map_snoc (zs : List Int) (k : Nat) (h : k < zs.length) : zs.take (k + 1) = zs.take k ++ [zs.getD k 0] := by
  rw [List.take_succ_eq_append_getElem h]; simp [h]
theorem jn_first (zs : List Int) (h : 0 < zs.length) : jn (zs.take 1) = Lib.itoa (zs.getD 0 0) := by
  rw [take_map_snoc zs 0 h]; simp [jn, Lib.join_one]
theorem jn_next (zs : List Int) (k : Nat) (hk : 0 < k) (h : k < zs.length) : jn (zs.take (k + 1)) = jn (zs.take k) ++ [44] ++ Lib.itoa (zs.getD k 0) := by
  rw [take_map_snoc zs k h]
  unfold jn
  rw [List.map_append, List.map_cons, List.map_nil]
  cases hz : (zs.take k).map Lib.itoa with
  | nil =>
    have := congrArg List.length hz
    rw [List.length_map, List.length_take, List.length_nil] at this
    omega
  | cons x r => rw [List.cons_append, join_snoc, List.append_assoc]
theorem itoa_len (n : Int) (h1 : -9223372036854775808 ≤ n) (h2 : n ≤ 9223372036854775807) : (Lib.itoa n).length ≤ 20 := by
  by_cases h0 : n = 0
  · subst h0; rw [itoa_zero]; simp
  by_cases hn : n < 0
  · obtain ⟨m, rfl⟩ : ∃ m : Nat, n = -(m : Int) := ⟨n.natAbs, by omega⟩
    rw [itoa_neg m (by omega)]
    have := revD_len 19 m (by omega)
    simp; omega
  · obtain ⟨m, rfl⟩ : ∃ m : Nat, n = m := ⟨n.toNat, by omega⟩
    rw [itoa_pos m (by omega)]
    have := revD_len 19 m (by omega)
    simp; omega
theorem wi_at {m : Int} {zs : List Int} (h : wiI m zs = true) (k : Nat) (hk : k < zs.length) : -m ≤ zs.getD k 0 ∧ zs.getD k 0 ≤ m := by
  have := List.all_eq_true.1 h (zs.getD k 0) (by simp [hk])
  simpa using this
theorem jn_len (zs : List Int) (hw : wiI 1000000000000 zs = true) : ∀ k, k ≤ zs.length → (jn (zs.take k)).length ≤ 21 * k
  | 0, _ => by simp [jn, Lib.join_nil]
  | k + 1, h => by
    have hb := wi_at hw k (by omega)
    have hi := itoa_len (zs.getD k 0) (by omega) (by omega)
    by_cases hk : k = 0
    · subst hk; rw [jn_first zs (by omega)]; omega
    · rw [jn_next zs k (by omega) (by omega)]
      have := jn_len zs hw k (by omega)
      simp only [List.length_append, List.length_cons, List.length_nil]; omega
theorem wi_take_no {m : Int} {zs : List Int} {k : Nat} (hk : k < zs.length) (h : inI (zs.getD k 0) (-m) m = false) : wiI m zs = false := by
  unfold wiI
  rw [List.all_eq_false]
  exact ⟨zs.getD k 0, by simp [hk], by simpa [inI] using h⟩
theorem wi_yes {m : Int} {zs : List Int} (h : ∀ j, j < zs.length → inI (zs.getD j 0) (-m) m = true) : wiI m zs = true := by
  unfold wiI
  rw [List.all_eq_true]
  intro x hx
  obtain ⟨j, hj, rfl⟩ := List.getElem_of_mem hx
  have := h j hj
  simpa [inI, hj] using this

set_option maxHeartbeats 1000000 in
theorem fits_any (b cap : Nat) (zs : List Int) (w : World) (hl : zs.length ≤ 1048576) (h1 : IntsAt w b zs) :
    Calls Tryd.prog 56 #[.slice (some ⟨b, 0, none⟩) zs.length cap] w fun e w' => e = .returned (.bool (fitB zs)) ∧ w = w' := by
  have H1 := Lib.hid h1
  clear h1
  go_enter Tryd.func56, Tryd.ntmps56
  go_wp2
  go_loop [3] (fun i => ∃ k : Nat, k ≤ zs.length ∧ i = .int .i64 k ∧ Hid (∀ j, j < k → inI (zs.getD j 0) (-1000000000000) 1000000000000 = true)) (fun i => zs.length - (intOf i).toNat)
  case atStart => exact ⟨0, by omega, rfl, Lib.hid (fun j hj => by omega)⟩
  case round =>
    obtain ⟨k, hk, rfl, ha⟩ := hrel
    by_cases hlt : k < zs.length
    · have hcell := H1.out.2 k hlt
      cases hin : inI (zs.getD k 0) (-1000000000000) 1000000000000 with
      | false =>
        have HF : Hid (fitB zs = false) := Lib.hid (by unfold fitB; rw [wi_take_no hlt hin]; rfl)
        generalize zs.getD k 0 = y at *
        go_wp2_with ((with_reducible refine (in_any _ _ _ _).mono ?_); rintro e w' ⟨rfl, rfl⟩)
        go_ret
        exact ⟨ret_bool HF.out.symm, rfl⟩
      | true =>
        have HN : Hid (∀ j, j < k + 1 → inI (zs.getD j 0) (-1000000000000) 1000000000000 = true) := Lib.hid (fun j hj => by
          by_cases e : j = k
          · subst e; exact hin
          · exact ha.out j (by omega))
        generalize zs.getD k 0 = y at *
        go_wp2_with ((with_reducible refine (in_any _ _ _ _).mono ?_); rintro e w' ⟨rfl, rfl⟩)
        go_round
        case rel => exact ⟨k + 1, by omega, by go_num, HN⟩
        case measure => simp [intOf]; omega
    · have HY : Hid (fitB zs = decide (zs.length ≤ 64)) := Lib.hid (by unfold fitB; rw [wi_yes (fun j hj => ha.out j (by omega))]; rfl)
      go_wp2
      go_ret
      exact ⟨ret_bool (by rw [HY.out]; exact decide_eq_decide.2 (by omega)), rfl⟩

theorem dec_tb (n : Int) (w : World) (h1 : -9223372036854775808 ≤ n) (h2 : n ≤ 9223372036854775807) :
    Calls Tryd.prog 51 #[.int .i64 n] w fun e w' => e = .returned (.string (tb (Lib.itoa n))) ∧ Below w.heap.size w w' := l01Dec_any n w h1 h2
theorem add_tb (a b : List UInt8) (w : World) (h : a.length + b.length ≤ 1048576) : (Op.stringOp .add (tb a) (tb b)).run Tryd.prog w = .ok (.string (tb (a ++ b))) w := by
  rw [run_string_add_sum w _ _ (by rw [tb_size, tb_size]; omega), tb_append]
theorem add_comma (a : List UInt8) (w : World) (h : a.length ≤ 104857) : (Op.stringOp .add (tb a) ⟨#[44]⟩).run Tryd.prog w = .ok (.string (tb (a ++ [44]))) w := add_tb a [44] w (by simp; omega)
theorem ret_tb {a b : List UInt8} (h : a = b) : Ending.returned (.string (tb a)) = .returned (.string (tb b)) := by rw [h]
theorem tb_empty : tb [] = ⟨#[]⟩ := rfl

set_option maxHeartbeats 1000000 in
theorem list_any (b cap : Nat) (zs : List Int) (w : World) (hf : fitB zs = true) (h1 : IntsAt w b zs) :
    Calls Tryd.prog 57 #[.slice (some ⟨b, 0, none⟩) zs.length cap] w fun e w' => e = .returned (.string (tb (listT zs))) ∧ Below w.heap.size w w' := by
  have hf2 := hf
  simp only [fitB, Bool.and_eq_true, decide_eq_true_eq] at hf2
  obtain ⟨hw, hl⟩ := hf2
  have HW := Lib.hid hw
  have H1 := Lib.hid h1
  clear h1 hf hw
  unfold listT
  by_cases h0 : zs.length = 0
  · rw [if_pos h0]
    have e0 : ((zs.length : Int) == 0) = true := by rw [beq_iff_eq]; omega
    clear h0
    go_enter Tryd.func57, Tryd.ntmps57
    go_wp2
    go_ret
    exact ⟨rfl, Below.refl _ _⟩
  rw [if_neg h0]
  have e0 : ((zs.length : Int) == 0) = false := by rw [beq_eq_false_iff_ne]; omega
  clear h0
  go_enter Tryd.func57, Tryd.ntmps57
  go_wp2
  go_loopw [3, 4] (fun o i wr => ∃ k : Nat, k ≤ zs.length ∧ i = .int .i64 k ∧ o = .string (tb (jn (zs.take k))) ∧ Hid (Below w.heap.size w wr)) (fun _ i _ => zs.length - (intOf i).toNat)
  case atStart => exact ⟨0, by omega, rfl, rfl, Lib.hid (Below.refl _ _)⟩
  case round =>
    obtain ⟨k, hk, rfl, rfl, hb⟩ := hrel
    by_cases hlt : k < zs.length
    · have hcell : wr.cell? ⟨b, k, none⟩ = some (.int .i64 (zs.getD k 0)) := (hb.out.cell (p := ⟨b, k, none⟩) H1.out.1).trans (H1.out.2 k hlt)
      have hy := wi_at HW.out k hlt
      have hil := itoa_len (zs.getD k 0) (by omega) (by omega)
      have hjl := jn_len zs HW.out k (by omega)
      by_cases hk0 : k = 0
      · have HJ : Hid (jn (zs.take (k + 1)) = Lib.itoa (zs.getD k 0)) := Lib.hid (by subst hk0; exact jn_first zs hlt)
        have hz : jn (zs.take k) = [] := by subst hk0; simp [jn, Lib.join_nil]
        have hk0' : k ≤ 0 := by omega
        generalize zs.getD k 0 = y at *
        generalize jn (zs.take k) = J at *
        have ha2 : ∀ w, (Op.stringOp .add (tb J) (tb (Lib.itoa y))).run Tryd.prog w = .ok (.string (tb (Lib.itoa y))) w := fun w => by
          have := add_tb J (Lib.itoa y) w (by omega)
          rw [hz] at this ⊢
          exact this
        clear hz hk0
        go_wp2_with ((with_reducible refine (dec_tb _ _ (by omega) (by omega)).mono ?_); rintro e w' ⟨rfl, hb1⟩)
        go_roundw
        case rel => exact ⟨k + 1, by omega, by go_num, by rw [HJ.out], Lib.hid (hb.out.trans (hb1.mono hb.out.size))⟩
        case measure => simp [intOf]; omega
      · have HJ := Lib.hid (jn_next zs k (by omega) hlt)
        have hkp : 0 < k := by omega
        generalize zs.getD k 0 = y at *
        generalize jn (zs.take k) = J at *
        have ha1 := fun w => add_comma J w (by omega)
        have ha2 := fun w => add_tb (J ++ [44]) (Lib.itoa y) w (by simp; omega)
        go_wp2_with ((with_reducible refine (dec_tb _ _ (by omega) (by omega)).mono ?_); rintro e w' ⟨rfl, hb1⟩)
        go_roundw
        case rel => exact ⟨k + 1, by omega, by go_num, by rw [HJ.out]; simp, Lib.hid (hb.out.trans (hb1.mono hb.out.size))⟩
        case measure => simp [intOf]; omega
    · go_wp2
      go_ret
      exact ⟨ret_tb (by rw [List.take_of_length_le (by omega)]), hb.out⟩
theorem listText_spec (b cap : Nat) (zs : List Int) (w : World) (hl : zs.length ≤ 1048576) (h1 : IntsAt w b zs) :
    Calls Tryd.prog 31 #[.slice (some ⟨b, 0, none⟩) zs.length cap] w fun e w' => e = .returned (.string (tb (listR zs))) ∧ Below w.heap.size w w' := by
  have H1 := Lib.hid h1
  clear h1
  unfold listR
  cases hf : fitB zs with
  | false =>
    go_enter Tryd.func31, Tryd.ntmps31
    go_wp2_with ((with_reducible refine (fits_any _ _ _ _ hl H1.out).mono ?_); rintro e w' ⟨rfl, rfl⟩)
    go_ret
    exact ⟨rfl, Below.refl _ _⟩
  | true =>
    have HF := Lib.hid hf
    go_enter Tryd.func31, Tryd.ntmps31
    go_wp2_with (first | ((with_reducible refine (fits_any _ _ _ _ hl H1.out).mono ?_); rintro e w' ⟨rfl, rfl⟩) | ((with_reducible refine (list_any _ _ _ _ HF.out H1.out).mono ?_); rintro e w' ⟨rfl, hb⟩))
    go_ret
    exact ⟨rfl, by assumption⟩
end Go.Proofs.YtglbbpcdodlnmaaDoor
