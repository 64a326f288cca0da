/- Points that are moved, of spec and of impl; a polygon that begins with another point, and one that is moved. -/
import Derived.Test.YtjhmpmaademdcaaGrow
import Derived.Test.YtjhmpmaademdcaaK2
import Derived.Test.YtjhmpmaademdcaaPolyG1
import Derived.Test.YtjhmpmaademdcaaPolyArg
import Derived.Test.YtjhmpmaademdcaaTurnExp
namespace Go.Proofs.Ytjhmpmaademdcaa
open Go.ChangeShapes Go.WideShapes Go.ChangeAt Go.RowKit
set_option linter.unusedVariables false
set_option linter.unusedSimpArgs false

def shiftL (zs : List P2) (dx dy : Int) : List P2 := zs.map fun p => (p.1 + dx, p.2 + dy)
theorem shiftL_len (zs : List P2) (dx dy : Int) : (shiftL zs dx dy).length = zs.length := by simp [shiftL]
theorem shift_succ {zs : List P2} {k : Nat} {x y dx dy : Int} (hk : k < zs.length) (e : zs.getD k (0, 0) = (x, y)) : flatP (shiftL (zs.take k) dx dy) ++ [.int .i64 (x + dx), .int .i64 (y + dy)] = flatP (shiftL (zs.take (k + 1)) dx dy) := by
  have e' : zs[k] = (x, y) := by simpa [List.getD_eq_getElem?_getD, hk] using e
  rw [List.take_succ_eq_append_getElem hk, e']
  simp [shiftL, flatP]
theorem shift_at {zs : List P2} {k : Nat} {x y dx dy : Int} (hk : k < zs.length) (e : zs.getD k (0, 0) = (x, y)) : (shiftL zs dx dy).getD k (0, 0) = (x + dx, y + dy) := by
  have e' : zs[k] = (x, y) := by simpa [List.getD_eq_getElem?_getD, hk] using e
  simp [shiftL, List.getD_eq_getElem?_getD, hk, e']
/-- All coordinates are small. -/
def Small (M : Int) (zs : List P2) : Prop := ∀ k, k < zs.length → -M ≤ (zs.getD k (0, 0)).1 ∧ (zs.getD k (0, 0)).1 ≤ M ∧ -M ≤ (zs.getD k (0, 0)).2 ∧ (zs.getD k (0, 0)).2 ≤ M
theorem small_ok {zs : List P2} (h : allOk zs = true) : Small 20000 zs := fun k hk => by
  have := ok_bd (allOk_at h k hk)
  omega
theorem own_new (w : World) : (w.alloc (.cells #[] 30)).ownsRow w.heap.size 30 2 (.slice (some ⟨w.heap.size, 0, none⟩) 0 0) 0 [] := by
  have := World.ownsRow_made (base := w.heap.size) (e := 30) (size := 2) w #[] 0 (Nat.le_refl _) (by simp [maxLen]) (by simp)
  exact this
theorem own_below {w w' : World} {base e n : Nat} {size : Nat} {v : Value} {xs : List Value} (h : w.ownsRow base e size v n xs) (hb : Below w.heap.size w w') : w'.ownsRow base e size v n xs := h.kept (grown_none hb) (by cases h : v.ownBlock <;> simp)
theorem own_grown {w w' : World} {base e n : Nat} {size : Nat} {v : Value} {xs : List Value} {B : Nat} (h : w.ownsRow base e size v n xs) (hg : w.grownBy w' v.ownBlock) (hB : B ≤ base) (hw : B ≤ w.heap.size) : Below B w w' := grown_below hg hw (fun k hk => Nat.le_trans hB (World.ownsRow.lt h k hk).1)
set_option maxRecDepth 100000 in
set_option maxHeartbeats 4000000 in
theorem shifted_spec (ao : Option Addr) (n c : Nat) (zs : List P2) (dx dy : Int) (w : World) (hn : n ≤ 1000) (hp : PV w ao n zs) (hs : Small 100000 zs) (h1 : -100000 ≤ dx ∧ dx ≤ 100000) (h2 : -100000 ≤ dy ∧ dy ≤ 100000) :
    Calls Try.prog 160 #[.slice ao n c, .int .i64 dx, .int .i64 dy] w (NewPost (shiftL zs dx dy) w) := by
  have hz := hp.1
  obtain ⟨i0, hi, hz0, hz1, hz2⟩ := info_parts info_pt
  have HO := Lib.hid (own_new w)
  have HB := Lib.hid (one_alloc (w := w) (.cells #[] 30))
  have HP := Lib.hid hp
  have HS := Lib.hid hs
  have HZ := Lib.hid hz
  clear hp hs hz
  go_enter Try.func160, Try.ntmps160
  go_wp2
  go_loopw [7, 8] (fun sv iv wr => ∃ (k : Nat), k ≤ n ∧ iv = .int .i64 k ∧ Hid (wr.ownsRow w.heap.size 30 2 sv k (flatP (shiftL (zs.take k) dx dy))) ∧ Hid (Below w.heap.size w wr)) (fun _ i _ => n - (intOf i).toNat)
  case atStart => exact ⟨0, by omega, rfl, HO, HB⟩
  case round =>
    obtain ⟨k, hk, rfl, ho, hb⟩ := hrel
    by_cases hlt : k < n
    · have hkz : k < zs.length := by have := HZ.out; omega
      obtain ⟨b, rfl, hpp⟩ := HP.out.at (by omega)
      have hbw := hpp.1
      have hwr := hb.out.size
      obtain ⟨x, y, e, a0, a1⟩ := hpp.pt hkz
      have hsm := HS.out k hkz
      rw [e] at hsm
      simp only at hsm
      have q1 : IntKind.i64.wrap (x + dx) = x + dx := IntWalk.i64_in _ (by omega)
      have q2 : IntKind.i64.wrap (y + dy) = y + dy := IntWalk.i64_in _ (by omega)
      clear hpp hsm
      have E := Lib.hid e
      clear e
      go_wp2
      refine Seq2.wp_region_fl w [0, 1, 2, 3, 4, 5, 6, 7, 8, 9, 10, 11, 12, 13, 14, 15] [16, 17, 18] (by kernel_rfl) (by kernel_rfl) rfl (hb.out) (fun w1 hh hb1 => ?_)
      repeat (first | (refine Seq2.fl_row (by decide) ?_) | (refine Seq2.fl_skip (by kernel_rfl) (by kernel_rfl) ?_ ?_; (focus (go_simp; done)); (try simp only [Act.put, List.setIfInBounds_toArray, List.set_cons_zero, List.set_cons_succ])) | (refine Seq2.fl_val (by kernel_rfl) (by kernel_rfl) ?_ ?_; (focus (go_simp; done)); apply Exists.intro; refine ⟨fun w2 hw2 => ?_, ?_⟩; (focus (obtain ⟨hc, hf⟩ := bcell hw2; clear hw2; go_simp; (first | done | with_reducible rfl | (with_reducible exact eql2 _ _ _) | (with_reducible exact neq2 _ _ _)))); (try simp only [Act.put, List.setIfInBounds_toArray, List.set_cons_zero, List.set_cons_succ])))
      refine Seq2.fl_nil ?_
      refine ch_one (by kernel_rfl) rfl ?_
      gi_wp2
      have HS1 := Lib.hid (show w1.heap.size = wr.heap.size by rw [hh])
      have HO1 := Lib.hid (own_below ho.out hb1)
      have HB1 := Lib.hid hb1
      have HW1 := Lib.hid (hb.out.trans (hb1.mono hb.out.size))
      refine ⟨HW1.out.alloc HW1.out.size _, ?_⟩
      refine ch_one (by kernel_rfl) rfl ?_
      refine wpListIn_appN rfl _ _ 28 rfl w.heap.size 30 i0 _ 2 16 Try.underlying28 hi hz0 hz1 hz2 rfl (by omega) _ _ _ rfl HO1.out _ rfl HS1.out.symm rfl rfl (by omega) (by omega) HW1.out.size ?_
      intro v2 w2 ho2 hg2
      have HO2 := Lib.hid ho2
      have HW2 := Lib.hid ((HW1.out.alloc HW1.out.size _).trans (own_grown (HO1.out.alloc _) hg2 (Nat.le_refl _) (HW1.out.alloc HW1.out.size _).size))
      clear ho2 hg2 hb1 hh
      gi_wp2
      refine ⟨HW2.out, ?_⟩
      refine ch_one (by kernel_rfl) rfl ?_
      gi_wp2
      refine ⟨HW2.out, ?_⟩
      refine ch_nil (by kernel_rfl) ?_
      go_wp2
      go_roundw
      case rel => exact ⟨k + 1, by omega, by go_num, Lib.hid (by have := HO2.out; rwa [shift_succ hkz E.out] at this), Lib.hid HW2.out⟩
      case measure => simp [intOf]; omega
    · go_wp2
      go_ret
      obtain rfl : k = n := by omega
      refine ⟨_, rfl, ?_, hb.out⟩
      have := ho.out
      rwa [List.take_of_length_le (by have := HZ.out; omega), HZ.out, ← shiftL_len zs dx dy] at this
theorem own_rowPts {w : World} {base g n : Nat} {zs : List P2} (hz : n = zs.length) (hn : n ≤ 1048576) (hb : base ≤ g) (h : w.rowIs g 30 (n * 2) (ptF zs n)) : w.ownsRow base 30 2 (.slice (some ⟨g, 0, none⟩) n n) n (flatP zs) := by
  obtain ⟨c, h1, h2, h3⟩ := h
  refine ⟨by rw [flatP_len, hz], Or.inr ⟨g, n, c, rfl, hb, h1, Nat.le_refl _, by unfold maxLen; omega, h2, ?_⟩⟩
  apply List.ext_getElem?
  intro j
  by_cases hj : j < n * 2
  · rw [List.getElem?_take_of_lt hj, Array.getElem?_toList, h3 j hj]
    have hk : j / 2 < zs.length := by omega
    have := flatP_at hk
    unfold ptF
    rw [if_pos hj]
    rcases Nat.mod_two_eq_zero_or_one j with hm | hm
    · have ej : j / 2 * 2 = j := by omega
      rw [ej] at this
      rw [if_pos hm, ← ej]; simpa [ej] using this.1.symm
    · have ej : j / 2 * 2 + 1 = j := by omega
      rw [ej] at this
      rw [if_neg (by omega), ← ej]; simpa [ej] using this.2.symm
  · rw [List.getElem?_take, if_neg hj, List.getElem?_eq_none (by rw [flatP_len]; omega)]
theorem make_outl (n : Nat) (hn : n ≤ 1048576) (w : World) : (Instr.makeSlice 81 (.int .i64 (n : Int)) (.int .i64 (n : Int))).run Try.prog w = .ok (.slice (some ⟨w.heap.size, 0, none⟩) n n) (w.alloc (.cells (madeCells #[.int .i64 0, .int .i64 0] (n * 2)) 30)) := by
  obtain ⟨i0, hi, hz0, hz1, hz2⟩ := info_parts info_pt
  have h := run_make (P := Try.prog) w 81 30 i0 _ Try.underlying81 hi hz0 .i64 .i64 n n (by omega) (by omega) (by rw [hz2]; omega) (by omega)
  rw [hz1, show (Value.agg #[.int .i64 0, .int .i64 0]).cells = #[.int .i64 0, .int .i64 0] from rfl] at h
  simpa using h
set_option maxRecDepth 100000 in
set_option maxHeartbeats 4000000 in
theorem shifted_impl (ao : Option Addr) (n c : Nat) (zs : List P2) (dx dy : Int) (w : World) (hn : n ≤ 1000) (hp : PV w ao n zs) (hs : Small 100000 zs) (h1 : -100000 ≤ dx ∧ dx ≤ 100000) (h2 : -100000 ≤ dy ∧ dy ≤ 100000) :
    Calls Try.prog 109 #[.slice ao n c, .int .i64 dx, .int .i64 dy] w (NewPost (shiftL zs dx dy) w) := by
  have hz := hp.1
  have hmk := make_outl n (by omega)
  have HM0 := Lib.hid (made_pts w n (shiftL zs dx dy) 30)
  have HB := Lib.hid (one_alloc (w := w) (.cells (madeCells #[.int .i64 0, .int .i64 0] (n * 2)) 30))
  have HP := Lib.hid hp
  have HS := Lib.hid hs
  have HZ := Lib.hid hz
  clear hp hs hz
  go_enter Try.func109, Try.ntmps109
  go_wp2
  clear hmk
  go_loopw [15, 8, 9] (fun iv jv bv wr => ∃ (k : Nat), k ≤ n ∧ iv = .int .i64 k ∧ Hid (wr.rowIs w.heap.size 30 (n * 2) (ptF (shiftL zs dx dy) k)) ∧ Hid (Below w.heap.size w wr)) (fun i _ _ _ => n - (intOf i).toNat)
  case atStart => exact ⟨0, by omega, rfl, HM0, HB⟩
  case round =>
    obtain ⟨k, hk, rfl, hr, hb⟩ := hrel
    by_cases hlt : k < n
    · have hkz : k < zs.length := by have := HZ.out; omega
      obtain ⟨b, rfl, hpp⟩ := (HP.out.below hb.out).at (by omega)
      have hbw := hpp.1
      have hwr := hb.out.size
      obtain ⟨x, y, e, a0, a1⟩ := hpp.pt hkz
      have hsm := HS.out k hkz
      rw [e] at hsm
      simp only at hsm
      have q1 : IntKind.i64.wrap (x + dx) = x + dx := IntWalk.i64_in _ (by omega)
      have q2 : IntKind.i64.wrap (y + dy) = y + dy := IntWalk.i64_in _ (by omega)
      have HE := Lib.hid (ptF_step (shift_at (dx := dx) (dy := dy) hkz e))
      have hgw := hr.out.lt
      have d0 := hr.out.cell (i := k * 2) (by omega)
      have d1 := hr.out.cell (i := k * 2 + 1) (by omega)
      rw [ptF, if_neg (by omega)] at d0 d1
      have f0 := hr.out.frozen (k * 2)
      have f1 := hr.out.frozen (k * 2 + 1)
      clear hpp hsm e
      go_wp2
      go_roundw
      case rel => exact ⟨k + 1, by omega, by go_num, Lib.hid (rowIs_below (((hr.out.set (k * 2) _).set (k * 2 + 1) _).congr (fun j _ => HE.out j)) (one_alloc _)), Lib.hid (bseq ((hb.out.setCell (Nat.le_refl _) _).setCell (Nat.le_refl _) _) (one_alloc _))⟩
      case measure => simp [intOf]; omega
    · obtain rfl : k = n := by omega
      go_wp2
      go_ret
      refine ⟨_, rfl, ?_, hb.out⟩
      have := own_rowPts (base := w.heap.size) (by rw [shiftL_len]; exact HZ.out) (by omega) (Nat.le_refl _) hr.out
      have hl : (shiftL zs dx dy).length = k := by rw [shiftL_len]; exact HZ.out.symm
      rw [hl]
      exact this
/-- A slice of points that the call has made, and a code. -/
def NewC (zs : List P2) (c : Int) (w : World) (e : Ending) (w' : World) : Prop := ∃ v, e = .returned (.tuple #[v, .int .i64 c]) ∧ NewP w w' v zs
theorem newC_nil {w w' : World} {c : Int} (h : Below w.heap.size w w') : NewC [] c w (.returned (.tuple #[.slice none 0 0, .int .i64 c])) w' := ⟨_, rfl, ⟨rfl, Or.inl ⟨rfl, rfl⟩⟩, h⟩
def startR (zs : List P2) (k : Int) : List P2 × Int := if polyB zs then (if inI k 0 (zs.length - 1) then (rotL zs k.toNat, 0) else ([], 2)) else ([], 1)
end Go.Proofs.Ytjhmpmaademdcaa
