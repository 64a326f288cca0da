/- ReadDecimal of spec and of impl: both answer numI, at every string of at most 1048576 bytes. -/
import Derived.Test.YtmfchcaidfloaaaDoorK15
import Derived.Test.YtmfchcaidfloaaaDoorNumMath
import Derived.Test.YtmfchcaidfloaaaDoorK16
import Derived.Test.YtmfchcaidfloaaaDoorShelfParse
import Derived.Test.YtmfchcaidfloaaaDoorShelfTrim
import Derived.Lib.AtoiErrMem
namespace Go.Proofs.YtmfchcaidfloaaaDoor
open Go.ChangeShapes Go.WideShapes Go.ChangeAt Go.RowKit Go.Joins

def numT (o : Option Int) : Value := .tuple #[.int .i64 (o.getD 0), .bool o.isSome]

theorem take_snocN (s : ByteArray) (k : Nat) (h : k < s.size) : s.data.toList.take (k + 1) = s.data.toList.take k ++ [s[k]] := by
  rw [List.take_succ_eq_append_getElem (by simpa using h)]; rfl
theorem size_list (s : ByteArray) : s.data.toList.length = s.size := by simp
theorem drop_cons (s : ByteArray) (k : Nat) (h : k < s.size) : s.data.toList.drop k = s[k] :: s.data.toList.drop (k + 1) := by
  rw [List.drop_eq_getElem_cons (by simpa using h)]; rfl
theorem head_at (s : ByteArray) (h : 0 < s.size) : s.data.toList.head? = some s[0] := by
  have := drop_cons s 0 h
  rw [List.drop_zero] at this
  rw [this]; rfl
theorem u8_eq (c : UInt8) (k : Nat) (hk : k < 256) : ((c.toNat : Int) == (k : Int)) = decide (c = UInt8.ofNat k) := by
  rw [Bool.eq_iff_iff]
  simp only [beq_iff_eq, decide_eq_true_eq]
  constructor
  · intro e
    rw [← UInt8.toNat_inj, UInt8.toNat_ofNat']
    omega
  · rintro rfl
    rw [UInt8.toNat_ofNat']; omega
theorem digI_isD (c : UInt8) : digI (c.toNat : Int) = isD c := rfl

/-- The loop of spec: the digits from a to k have been read. -/
theorem val_step (s : ByteArray) (a k : Nat) (ha : a ≤ k) (h : k < s.size) : valF 0 ((s.data.toList.drop a).take (k + 1 - a)) = 10 * valF 0 ((s.data.toList.drop a).take (k - a)) + dV s[k] := by
  have e : (s.data.toList.drop a).take (k + 1 - a) = (s.data.toList.drop a).take (k - a) ++ [s[k]] := by
    rw [show k + 1 - a = (k - a) + 1 by omega, List.take_succ_eq_append_getElem (by rw [List.length_drop, size_list]; omega), List.getElem_drop]
    congr 2
    have : a + (k - a) = k := by omega
    simp only [this]
    rfl
  rw [e, valF_snoc]
theorem all_step (s : ByteArray) (a k : Nat) (ha : a ≤ k) (h : k < s.size) : ((s.data.toList.drop a).take (k + 1 - a)).all isD = (((s.data.toList.drop a).take (k - a)).all isD && isD s[k]) := by
  have e : (s.data.toList.drop a).take (k + 1 - a) = (s.data.toList.drop a).take (k - a) ++ [s[k]] := by
    rw [show k + 1 - a = (k - a) + 1 by omega, List.take_succ_eq_append_getElem (by rw [List.length_drop, size_list]; omega), List.getElem_drop]
    congr 2
    have : a + (k - a) = k := by omega
    simp only [this]
    rfl
  rw [e, List.all_append]; simp

/-- What is known when the loop of spec begins, with a = 0 or 1. -/
structure NumStart (s : ByteArray) (a : Nat) : Prop where
  tail : tailD s.data.toList = s.data.toList.drop a
  neg : (s.data.toList.head? = some 45) ↔ a = 1
  lt : a < s.size
  len : s.size - a ≤ 18
  lead : ¬ ((s.data.toList.drop a).head? = some 48 ∧ 1 < s.size)
  a1 : a ≤ 1

theorem start_ok {s : ByteArray} {a : Nat} (h : NumStart s a) : okNum s.data.toList = (s.data.toList.drop a).all isD := by
  have h1 : s.data.toList.drop a ≠ [] := by
    intro e
    have l1 := congrArg List.length e
    rw [List.length_drop, size_list, List.length_nil] at l1
    have := h.lt
    omega
  have h2 : (s.data.toList.drop a).length ≤ 18 := by rw [List.length_drop, size_list]; exact h.len
  have h3 : (decide ((s.data.toList.drop a).head? = some 48) && decide (1 < s.data.toList.length)) = false := by
    rw [size_list]
    have := h.lead
    rw [Bool.and_eq_false_iff]
    simp only [decide_eq_false_iff_not]
    by_cases hh : (s.data.toList.drop a).head? = some 48
    · right; intro h5; exact this ⟨hh, h5⟩
    · left; exact hh
  rw [okNum, h.tail, h3, decide_eq_true h1, decide_eq_true h2]
  simp
theorem start_yes {s : ByteArray} {a : Nat} (h : NumStart s a) (k : Nat) (hk : s.size ≤ k) (hd : ((s.data.toList.drop a).take (k - a)).all isD = true) :
    numI s.data.toList = some (if a = 1 then -(valF 0 ((s.data.toList.drop a).take (k - a)) : Int) else (valF 0 ((s.data.toList.drop a).take (k - a)) : Int)) := by
  have e : (s.data.toList.drop a).take (k - a) = s.data.toList.drop a := List.take_of_length_le (by rw [List.length_drop, size_list]; omega)
  rw [e] at hd ⊢
  rw [numI, start_ok h, if_pos hd, h.tail]
  by_cases ha : a = 1
  · rw [if_pos (h.neg.2 ha), if_pos ha]
  · rw [if_neg (fun e => ha (h.neg.1 e)), if_neg ha]
theorem start_no {s : ByteArray} {a : Nat} (h : NumStart s a) (k : Nat) (ha : a ≤ k) (hk : k < s.size) (hd : isD s[k] = false) : numI s.data.toList = none := by
  rw [numI, start_ok h, if_neg]
  intro hall
  have : s[k] ∈ s.data.toList.drop a := by
    have e := drop_cons s k hk
    have e2 : s.data.toList.drop k = (s.data.toList.drop a).drop (k - a) := by rw [List.drop_drop]; congr 1; omega
    rw [e2] at e
    exact List.mem_of_mem_drop (by rw [e]; simp)
  have := List.all_eq_true.1 hall _ this
  rw [hd] at this
  cases this
theorem not_none (l : List UInt8) (h : okNum l = false) : numI l = none := by rw [numI, if_neg (by simp [h])]

theorem val_17 (l : List UInt8) (h : l.all isD = true) (hl : l.length ≤ 17) : valF 0 l < 100000000000000000 := by
  have h1 := valF_lt l 0 h
  have h2 : 10 ^ l.length ≤ 10 ^ 17 := Nat.pow_le_pow_right (by omega) hl
  omega
theorem val_bd {s : ByteArray} {a k : Nat} (h : NumStart s a) (hk : k < s.size) (hd : ((s.data.toList.drop a).take (k - a)).all isD = true) : valF 0 ((s.data.toList.drop a).take (k - a)) < 100000000000000000 :=
  val_17 _ hd (by rw [List.length_take]; have := h.len; have := h.lt; omega)
theorem val_bd2 {s : ByteArray} {a k : Nat} (h : NumStart s a) (hd : ((s.data.toList.drop a).take (k - a)).all isD = true) : valF 0 ((s.data.toList.drop a).take (k - a)) < 1000000000000000000 :=
  val_18 _ hd (by rw [List.length_take, List.length_drop, size_list]; have := h.len; omega)
theorem dV_int {c : UInt8} (h : isD c = true) : ((dV c : Nat) : Int) = (c.toNat : Int) - 48 := by
  rw [isD_iff] at h; unfold dV; omega
theorem isD_of_digI {c : UInt8} {b : Bool} (h : digI (c.toNat : Int) = b) : isD c = b := h
theorem ret_num {o : Option Int} {a : Int} {b : Bool} (h : o = if b then some a else none) (ha : b = false → a = 0) : Ending.returned (.tuple #[.int .i64 a, .bool b]) = .returned (numT o) := by
  cases b
  · simp at h; subst h; rw [ha rfl]; rfl
  · simp at h; subst h; rfl
theorem start0 {s : ByteArray} (h0 : 0 < s.size) (h45 : s[0] ≠ 45) (h18 : s.size ≤ 18) (hl : s[0] = 48 → s.size ≤ 1) : NumStart s 0 := by
  have hh := head_at s h0
  have hn : s.data.toList.head? ≠ some 45 := by rw [hh]; simpa using h45
  refine ⟨by rw [tailD, if_neg hn]; rfl, ⟨fun e => absurd e hn, fun e => by omega⟩, h0, by omega, ?_, by omega⟩
  rw [List.drop_zero, hh]
  rintro ⟨e, h1⟩
  have := hl (by simpa using e)
  omega
theorem start1 {s : ByteArray} (h1 : 1 < s.size) (h45 : s[0] = 45) (h18 : s.size ≤ 19) (hl : s[1] ≠ 48) : NumStart s 1 := by
  have hh := head_at s (by omega)
  have hn : s.data.toList.head? = some 45 := by rw [hh, h45]
  have ht : s.data.toList.tail = s.data.toList.drop 1 := by simp
  refine ⟨by rw [tailD, if_pos hn, ht], ⟨fun _ => rfl, fun _ => hn⟩, h1, by omega, ?_, by omega⟩
  rw [drop_cons s 1 h1]
  rintro ⟨e, _⟩
  exact hl (by simpa using e)
theorem none_empty {s : ByteArray} (h : s.size = 0) : numI s.data.toList = none := by
  have : s.data.toList = [] := by apply List.eq_nil_of_length_eq_zero; rw [size_list]; exact h
  rw [this]; exact not_none [] rfl
theorem none_minus {s : ByteArray} (h : s.size = 1) (h45 : s[0] = 45) : numI s.data.toList = none := by
  have := drop_cons s 0 (by omega)
  rw [List.drop_zero, h45, List.drop_of_length_le (by rw [size_list]; omega)] at this
  rw [this]; exact not_none [45] rfl
theorem none_long {s : ByteArray} {a : Nat} (ht : tailD s.data.toList = s.data.toList.drop a) (h : 18 < s.size - a) : numI s.data.toList = none := by
  apply not_none
  rw [okNum, ht]
  have : ¬ ((s.data.toList.drop a).length ≤ 18) := by rw [List.length_drop, size_list]; omega
  simp only [decide_eq_false this, Bool.and_false, Bool.false_and]
theorem none_lead {s : ByteArray} {a : Nat} (ht : tailD s.data.toList = s.data.toList.drop a) (h : (s.data.toList.drop a).head? = some 48) (h1 : 1 < s.size) : numI s.data.toList = none := by
  apply not_none
  rw [okNum, ht, h, size_list]
  simp [h1]
theorem tail0 {s : ByteArray} (h0 : 0 < s.size) (h45 : s[0] ≠ 45) : tailD s.data.toList = s.data.toList.drop 0 := by
  have hn : s.data.toList.head? ≠ some 45 := by rw [head_at s h0]; simpa using h45
  rw [tailD, if_neg hn]; rfl
theorem tail1 {s : ByteArray} (h0 : 0 < s.size) (h45 : s[0] = 45) : tailD s.data.toList = s.data.toList.drop 1 := by
  have hn : s.data.toList.head? = some 45 := by rw [head_at s h0, h45]
  rw [tailD, if_pos hn]; simp

set_option maxRecDepth 100000 in
set_option maxHeartbeats 2000000 in
theorem l01Number_any (s : ByteArray) (w : World) (hs : s.size ≤ 1048576) :
    Calls Tryd.prog 61 #[.string s] w fun e w' => e = .returned (numT (numI s.data.toList)) ∧ w = w' := by
  by_cases h0 : s.size = 0
  · have HF := Lib.hid (none_empty h0)
    go_enter Tryd.func61, Tryd.ntmps61
    go_wp2
    go_ret2
    exact ⟨ret_num (b := false) (by rw [HF.out]; rfl) (fun _ => rfl), rfl⟩
  have hp : 0 < s.size := by omega
  have e0 : ((s.size : Int) == 0) = false := by rw [beq_eq_false_iff_ne]; omega
  clear h0
  by_cases h45 : s[0] = 45
  · have H45 := Lib.hid h45
    have t0 : ((s[0].toNat : Int) == 45) = true := by rw [h45]; rfl
    clear h45
    by_cases h1 : s.size = 1
    · have e1 : ((s.size : Int) == 1) = true := by rw [beq_iff_eq]; omega
      have HF := Lib.hid (none_minus h1 H45.out)
      clear h1
      go_enter Tryd.func61, Tryd.ntmps61
      go_wp2
      go_ret2
      exact ⟨ret_num (b := false) (by rw [HF.out]; rfl) (fun _ => rfl), rfl⟩
    · have e1 : ((s.size : Int) == 1) = false := by rw [beq_eq_false_iff_ne]; omega
      have h1' : 1 < s.size := by omega
      clear h1
      by_cases h18 : s.size ≤ 19
      · have e2 : decide (18 < (s.size : Int) - 1) = false := by simp; omega
        by_cases h48 : s[1] = 48
        · have HF := Lib.hid (none_lead (tail1 hp H45.out) (by rw [drop_cons s 1 h1', h48]; rfl) h1')
          have t1 : ((s[1].toNat : Int) == 48) = true := by rw [h48]; rfl
          clear h48
          go_enter Tryd.func61, Tryd.ntmps61
          go_wp2
          go_ret2
          exact ⟨ret_num (b := false) (by rw [HF.out]; rfl) (fun _ => rfl), rfl⟩
        · have HN := Lib.hid (start1 h1' H45.out h18 h48)
          have t1 : ((s[1].toNat : Int) == 48) = false := by
            rw [show (48 : Int) = ((48 : Nat) : Int) from rfl, u8_eq _ 48 (by omega)]; simpa using h48
          clear h48
          go_enter Tryd.func61, Tryd.ntmps61
          go_wp2
          go_loop [5, 6] (fun v i => ∃ k : Nat, 1 ≤ k ∧ k ≤ s.size ∧ i = .int .i64 k ∧ v = .int .i64 (valF 0 ((s.data.toList.drop 1).take (k - 1)) : Nat) ∧ Hid (((s.data.toList.drop 1).take (k - 1)).all isD = true)) (fun _ i => s.size - (intOf i).toNat)
          case atStart => exact ⟨1, by omega, by omega, rfl, by simp [valF], Lib.hid (by simp)⟩
          case round =>
            obtain ⟨k, hk1, hk2, rfl, rfl, hal⟩ := hrel
            by_cases hlt : k < s.size
            · have hv := val_bd HN.out hlt hal.out
              have HS := Lib.hid (val_step s 1 k hk1 hlt)
              have HA := Lib.hid (all_step s 1 k hk1 hlt)
              generalize valF 0 ((s.data.toList.drop 1).take (k - 1)) = V at *
              cases hdo : digI s[k].toNat with
              | false =>
                have HF := Lib.hid (start_no HN.out k hk1 hlt (isD_of_digI hdo))
                go_wp2_with ((with_reducible refine (dig_spec _ _).mono ?_); rintro e w' ⟨rfl, rfl⟩)
                go_ret2
                exact ⟨ret_num (b := false) (by rw [HF.out]; rfl) (fun _ => rfl), rfl⟩
              | true =>
                have hb := (isD_iff s[k]).1 (isD_of_digI hdo)
                have HD := Lib.hid (dV_int (isD_of_digI hdo))
                have HO := Lib.hid (isD_of_digI hdo)
                have hb1 : 48 ≤ (s[k].toNat : Int) := by omega
                have hb2 : (s[k].toNat : Int) ≤ 57 := by omega
                clear hb
                go_wp2_with ((with_reducible refine (dig_spec _ _).mono ?_); rintro e w' ⟨rfl, rfl⟩)
                go_round
                case rel => exact ⟨k + 1, by omega, by omega, by go_num, val_int (by have h1 := HS.out; have h2 := HD.out; omega), Lib.hid (by rw [HA.out, hal.out, HO.out]; rfl)⟩
                case measure => simp [intOf]; omega
            · have HY := Lib.hid (start_yes HN.out k (by omega) hal.out)
              have hv2 := val_bd2 HN.out hal.out
              generalize valF 0 ((s.data.toList.drop 1).take (k - 1)) = V at *
              go_wp2
              go_ret2
              exact ⟨ret_num (b := true) (by rw [HY.out]; rfl) (fun e => by cases e), rfl⟩

      · have HF := Lib.hid (none_long (tail1 hp H45.out) (by omega))
        go_enter Tryd.func61, Tryd.ntmps61
        go_wp2
        go_ret2
        exact ⟨ret_num (b := false) (by rw [HF.out]; rfl) (fun _ => rfl), rfl⟩
  · have H45 := Lib.hid h45
    have t0 : ((s[0].toNat : Int) == 45) = false := by
      rw [show (45 : Int) = ((45 : Nat) : Int) from rfl, u8_eq _ 45 (by omega)]; simpa using h45
    clear h45
    by_cases h18 : s.size ≤ 18
    · have e2 : decide (18 < (s.size : Int)) = false := by simp; omega
      by_cases h48 : s[0] = 48
      · have t1 : ((s[0].toNat : Int) == 48) = true := by rw [h48]; rfl
        by_cases h1 : 1 < s.size
        · have HF := Lib.hid (none_lead (tail0 hp H45.out) (by rw [drop_cons s 0 hp, h48]; rfl) h1)
          clear h48
          go_enter Tryd.func61, Tryd.ntmps61
          go_wp2
          go_ret2
          exact ⟨ret_num (b := false) (by rw [HF.out]; rfl) (fun _ => rfl), rfl⟩
        · have HN := Lib.hid (start0 hp H45.out h18 (fun _ => by omega))
          have e3 : decide (1 < (s.size : Int)) = false := by simp; omega
          clear h48
          go_enter Tryd.func61, Tryd.ntmps61
          go_wp2
          go_loop [5, 6] (fun v i => ∃ k : Nat, 0 ≤ k ∧ k ≤ s.size ∧ i = .int .i64 k ∧ v = .int .i64 (valF 0 ((s.data.toList.drop 0).take (k - 0)) : Nat) ∧ Hid (((s.data.toList.drop 0).take (k - 0)).all isD = true)) (fun _ i => s.size - (intOf i).toNat)
          case atStart => exact ⟨0, by omega, by omega, rfl, by simp [valF], Lib.hid (by simp)⟩
          case round =>
            obtain ⟨k, hk1, hk2, rfl, rfl, hal⟩ := hrel
            by_cases hlt : k < s.size
            · have hv := val_bd HN.out hlt hal.out
              have HS := Lib.hid (val_step s 0 k hk1 hlt)
              have HA := Lib.hid (all_step s 0 k hk1 hlt)
              generalize valF 0 ((s.data.toList.drop 0).take (k - 0)) = V at *
              cases hdo : digI s[k].toNat with
              | false =>
                have HF := Lib.hid (start_no HN.out k hk1 hlt (isD_of_digI hdo))
                go_wp2_with ((with_reducible refine (dig_spec _ _).mono ?_); rintro e w' ⟨rfl, rfl⟩)
                go_ret2
                exact ⟨ret_num (b := false) (by rw [HF.out]; rfl) (fun _ => rfl), rfl⟩
              | true =>
                have hb := (isD_iff s[k]).1 (isD_of_digI hdo)
                have HD := Lib.hid (dV_int (isD_of_digI hdo))
                have HO := Lib.hid (isD_of_digI hdo)
                have hb1 : 48 ≤ (s[k].toNat : Int) := by omega
                have hb2 : (s[k].toNat : Int) ≤ 57 := by omega
                clear hb
                go_wp2_with ((with_reducible refine (dig_spec _ _).mono ?_); rintro e w' ⟨rfl, rfl⟩)
                go_round
                case rel => exact ⟨k + 1, by omega, by omega, by go_num, val_int (by have h1 := HS.out; have h2 := HD.out; omega), Lib.hid (by rw [HA.out, hal.out, HO.out]; rfl)⟩
                case measure => simp [intOf]; omega
            · have HY := Lib.hid (start_yes HN.out k (by omega) hal.out)
              have hv2 := val_bd2 HN.out hal.out
              generalize valF 0 ((s.data.toList.drop 0).take (k - 0)) = V at *
              go_wp2
              go_ret2
              exact ⟨ret_num (b := true) (by rw [HY.out]; rfl) (fun e => by cases e), rfl⟩

      · have HN := Lib.hid (start0 hp H45.out h18 (fun e => absurd e h48))
        have t1 : ((s[0].toNat : Int) == 48) = false := by
          rw [show (48 : Int) = ((48 : Nat) : Int) from rfl, u8_eq _ 48 (by omega)]; simpa using h48
        clear h48
        go_enter Tryd.func61, Tryd.ntmps61
        go_wp2
        go_loop [5, 6] (fun v i => ∃ k : Nat, 0 ≤ k ∧ k ≤ s.size ∧ i = .int .i64 k ∧ v = .int .i64 (valF 0 ((s.data.toList.drop 0).take (k - 0)) : Nat) ∧ Hid (((s.data.toList.drop 0).take (k - 0)).all isD = true)) (fun _ i => s.size - (intOf i).toNat)
        case atStart => exact ⟨0, by omega, by omega, rfl, by simp [valF], Lib.hid (by simp)⟩
        case round =>
          obtain ⟨k, hk1, hk2, rfl, rfl, hal⟩ := hrel
          by_cases hlt : k < s.size
          · have hv := val_bd HN.out hlt hal.out
            have HS := Lib.hid (val_step s 0 k hk1 hlt)
            have HA := Lib.hid (all_step s 0 k hk1 hlt)
            generalize valF 0 ((s.data.toList.drop 0).take (k - 0)) = V at *
            cases hdo : digI s[k].toNat with
            | false =>
              have HF := Lib.hid (start_no HN.out k hk1 hlt (isD_of_digI hdo))
              go_wp2_with ((with_reducible refine (dig_spec _ _).mono ?_); rintro e w' ⟨rfl, rfl⟩)
              go_ret2
              exact ⟨ret_num (b := false) (by rw [HF.out]; rfl) (fun _ => rfl), rfl⟩
            | true =>
              have hb := (isD_iff s[k]).1 (isD_of_digI hdo)
              have HD := Lib.hid (dV_int (isD_of_digI hdo))
              have HO := Lib.hid (isD_of_digI hdo)
              have hb1 : 48 ≤ (s[k].toNat : Int) := by omega
              have hb2 : (s[k].toNat : Int) ≤ 57 := by omega
              clear hb
              go_wp2_with ((with_reducible refine (dig_spec _ _).mono ?_); rintro e w' ⟨rfl, rfl⟩)
              go_round
              case rel => exact ⟨k + 1, by omega, by omega, by go_num, val_int (by have h1 := HS.out; have h2 := HD.out; omega), Lib.hid (by rw [HA.out, hal.out, HO.out]; rfl)⟩
              case measure => simp [intOf]; omega
          · have HY := Lib.hid (start_yes HN.out k (by omega) hal.out)
            have hv2 := val_bd2 HN.out hal.out
            generalize valF 0 ((s.data.toList.drop 0).take (k - 0)) = V at *
            go_wp2
            go_ret2
            exact ⟨ret_num (b := true) (by rw [HY.out]; rfl) (fun e => by cases e), rfl⟩

    · have HF := Lib.hid (none_long (tail0 hp H45.out) (by omega))
      go_enter Tryd.func61, Tryd.ntmps61
      go_wp2
      go_ret2
      exact ⟨ret_num (b := false) (by rw [HF.out]; rfl) (fun _ => rfl), rfl⟩
theorem l01Number_t (s : ByteArray) (w : World) (hs : s.size ≤ 1048576) :
    Calls Tryd.prog 61 #[.string s] w fun e w' => e = .returned (.tuple #[.int .i64 ((numI s.data.toList).getD 0), .bool (numI s.data.toList).isSome]) ∧ w = w' := l01Number_any s w hs
/-- The two error values of strconv: what its contracts ask of the world. -/
def ErrAt (g : Nat) (w : World) : Prop := g < w.heap.size ∧ ∃ te pe, w.cell? ⟨g, 0, none⟩ = some (.iface te pe)
theorem ErrAt.below {g B : Nat} {w w' : World} (h : ErrAt g w) (hb : Below B w w') (hB : w.heap.size ≤ B) : ErrAt g w' := by
  obtain ⟨h1, te, pe, h2⟩ := h
  have hs := hb.size
  exact ⟨by omega, te, pe, (hb.cell (p := ⟨g, 0, none⟩) (by simp; omega)).trans h2⟩

def parsed (x : Lib.NumEnd Int) (n : Int) (ev : Value) : Prop := (x = .ok n ∧ ev = .nilIface) ∨ ((∀ v, x ≠ .ok v) ∧ ∃ N, ev = .iface 186 (.pointer (some ⟨N, 0, none⟩)))

/-- strconv.ParseInt, base 10, 64 bits: a number and no error, or an error. -/
theorem parse_any (s : ByteArray) (w : World) (hs : s.size ≤ 1048576) (h1 : ErrAt 8 w) (h2 : ErrAt 9 w) :
    Calls Tryd.prog 101 #[.string s, .int .i64 10, .int .i64 64] w fun e w' => ∃ n ev, e = .returned (.tuple #[.int .i64 n, ev]) ∧ parsed (Lib.parseIntB 64 s.data.toList) n ev ∧ Below w.heap.size w w' := by
  generalize hx : Lib.parseIntB 64 s.data.toList = x
  rcases x with v | _ | _
  · refine (Any.strconv_ParseInt_10_at64_ok Tryd.laysC174 s (by omega) v hx w).mono ?_
    rintro e w' ⟨rfl, hw⟩
    refine ⟨v, .nilIface, rfl, Or.inl ⟨rfl, rfl⟩, ?_⟩
    rcases hw with rfl | ⟨t, rfl⟩
    · exact Below.refl _ _
    · exact Lib.bytesWorld_below _ _ _
  · obtain ⟨_, te, pe, hc⟩ := h1
    first
    | refine (Any.strconv_ParseInt_10_at64_syntax Tryd.laysC174 s (by omega) hx (.iface te pe) w hc (Or.inr ⟨te, pe, rfl⟩)).mono ?_
    rintro e w' ⟨N, rfl, _, _, hb⟩
    exact ⟨_, _, rfl, Or.inr ⟨(fun v e => by cases e), N, rfl⟩, hb⟩
  · obtain ⟨_, te, pe, hc⟩ := h2
    refine (Any.strconv_ParseInt_10_at64_range Tryd.laysC174 s (by omega) hx (.iface te pe) w hc (Or.inr ⟨te, pe, rfl⟩)).mono ?_
    rintro e w' ⟨N, rfl, _, _, hb⟩
    exact ⟨_, _, rfl, Or.inr ⟨(fun v e => by cases e), N, rfl⟩, hb⟩

theorem parse_good (s : ByteArray) (n : Int) (w : World) (hs : s.size ≤ 1048576) (h : Lib.parseIntB 64 s.data.toList = .ok n) (h1 : ErrAt 8 w) (h2 : ErrAt 9 w) :
    Calls Tryd.prog 101 #[.string s, .int .i64 10, .int .i64 64] w fun e w' => e = .returned (.tuple #[.int .i64 n, .nilIface]) ∧ Below w.heap.size w w' :=
  (parse_any s w hs h1 h2).mono fun e w' ⟨m, ev, he, hp, hb⟩ => by
    rcases hp with ⟨h3, rfl⟩ | ⟨h3, _⟩
    · rw [h] at h3; cases h3; exact ⟨he, hb⟩
    · exact absurd h (h3 n)
theorem parse_bad (s : ByteArray) (w : World) (hs : s.size ≤ 1048576) (h : ∀ v, Lib.parseIntB 64 s.data.toList ≠ .ok v) (h1 : ErrAt 8 w) (h2 : ErrAt 9 w) :
    Calls Tryd.prog 101 #[.string s, .int .i64 10, .int .i64 64] w fun e w' => (∃ n N, e = .returned (.tuple #[.int .i64 n, .iface 186 (.pointer (some ⟨N, 0, none⟩))])) ∧ Below w.heap.size w w' :=
  (parse_any s w hs h1 h2).mono fun e w' ⟨m, ev, he, hp, hb⟩ => by
    rcases hp with ⟨h3, _⟩ | ⟨_, N, rfl⟩
    · exact absurd h3 (h m)
    · exact ⟨⟨m, N, he⟩, hb⟩
def trimS (s : ByteArray) : ByteArray := ⟨(tailD s.data.toList).toArray⟩
theorem trimS_size (s : ByteArray) : (trimS s).size = (tailD s.data.toList).length := by
  show (tailD s.data.toList).toArray.size = _
  simp
theorem trim_any (s : ByteArray) (w : World) :
    Calls Tryd.prog 100 #[.string s, .string ⟨#[45]⟩] w fun e w' => e = .returned (.string (trimS s)) ∧ w = w' :=
  (Tryd.strings_TrimPrefix s ⟨#[45]⟩ w).mono fun e w' ⟨he, hw⟩ => ⟨by rw [he]; unfold trimS; rw [← trim_tail], hw.symm⟩
theorem decimal_same (n : Int) (s : ByteArray) (w : World) (h : Lib.itoa n = s.data.toList) (h1 : -9223372036854775808 ≤ n) (h2 : n ≤ 9223372036854775807) (ht : TabOk w) :
    Calls Tryd.prog 59 #[.int .i64 n] w fun e w' => e = .returned (.string s) ∧ Below w.heap.size w w' :=
  (decimal_impl n w h1 h2 ht).mono fun e w' ⟨he, hb⟩ => ⟨by rw [he, h, Lib.mk_data], hb⟩
def decS (n : Int) : ByteArray := ⟨(Lib.itoa n).toArray⟩
theorem decS_ne (n : Int) (s : ByteArray) (h : Lib.itoa n ≠ s.data.toList) : (decS n).toList ≠ s.toList := by
  rw [ByteArray.toList_eq, ByteArray.toList_eq]
  exact h
theorem decimal_other (n : Int) (w : World) (h1 : -9223372036854775808 ≤ n) (h2 : n ≤ 9223372036854775807) (ht : TabOk w) :
    Calls Tryd.prog 59 #[.int .i64 n] w fun e w' => e = .returned (.string (decS n)) ∧ Below w.heap.size w w' := decimal_impl n w h1 h2 ht

structure NumOk (w : World) : Prop where
  tab : TabOk w
  syn : ErrAt 8 w
  rng : ErrAt 9 w
theorem NumOk.below {B : Nat} {w w' : World} (h : NumOk w) (hb : Below B w w') (hB : w.heap.size ≤ B) : NumOk w' := ⟨h.tab.below hb hB, h.syn.below hb hB, h.rng.below hb hB⟩

end Go.Proofs.YtmfchcaidfloaaaDoor
