/- Slices of the struct Veneer in laws: what came in, sizes, copies, equality. -/
import Derived.Test.YtkmmhkhbpfkmcaaGreatDoorTyVeneer
import Derived.Test.YtkmmhkhbpfkmcaaGreatDoorK5
import Derived.Test.YtkmmhkhbpfkmcaaGreatDoorLft
import Derived.Lib.SmallJoins
import Derived.ChangeMaps5
namespace Go.Proofs.YtkmmhkhbpfkmcaaGreatDoor
open Seq2 Go.ChangeShapes Go.WideShapes Go.ChangeAt Go.RowKit Go.ChangeMaps Go.Joins Go.Deep
set_option linter.unusedVariables false
set_option linter.unusedSimpArgs false

/-- A slice that came in. -/
def VnL (w : World) (ao : Option Addr) (n : Nat) (zs : List Vn) : Prop := n = zs.length ∧ (n = 0 ∨ ∃ b off, ao = some ⟨b, off, none⟩ ∧ ∀ j, j < n → (zs.getD j vn0).1.size ≤ 9223372036854775807 ∧ VnAt w b (off + j * 3) (zs.getD j vn0))
theorem VnL.below {w w' : World} {ao : Option Addr} {n : Nat} {zs : List Vn} (h : VnL w ao n zs) (hb : Below w.heap.size w w') : VnL w' ao n zs :=
  ⟨h.1, h.2.imp id fun ⟨b, off, e, h1⟩ => ⟨b, off, e, fun j hj => ⟨(h1 j hj).1, (h1 j hj).2.below hb⟩⟩⟩
theorem cVn : Tryz.prog.cellsOf 50 = 3 := by kernel_rfl
theorem cBVn : Tryz.prog.cellsOf 9 = 1 := by kernel_rfl
theorem cIVn : Tryz.prog.cellsOf 2 = 1 := by kernel_rfl
set_option maxRecDepth 100000 in
theorem Vn_cells {H : Type} {enc : TypeId × Value → H} {W : World} {base : Nat} {sp : Nat → Bool} {fuel : Nat} {cs : List Value} {x : DataW H × List MemPlace} (h : DataW.trod enc Tryz.prog W base sp true fuel 50 cs = some x) :
    ∃ z : Vn, cs = [.string z.1, .int .i64 z.2.1, .int .i64 z.2.2] ∧ z.1.size ≤ 9223372036854775807 := by
  obtain ⟨xs, m, _, hx, hl, hlen, hf⟩ := DataW.trod_struct Tryz.underlying50 h
  rw [cVn] at hl
  match cs, hl with
  | [c0, c1, c2], _ =>
    match xs, hlen with
    | [y0, y1, y2], _ =>
      have h0 := hf 0 _ rfl
      have h1 := hf 1 _ rfl
      have h2 := hf 2 _ rfl
      change DataW.trod enc Tryz.prog W base sp true m 9 (([c0, c1, c2].drop 0).take (Tryz.prog.cellsOf 9)) = some y0 at h0
      change DataW.trod enc Tryz.prog W base sp true m 2 (([c0, c1, c2].drop 1).take (Tryz.prog.cellsOf 2)) = some y1 at h1
      change DataW.trod enc Tryz.prog W base sp true m 2 (([c0, c1, c2].drop 2).take (Tryz.prog.cellsOf 2)) = some y2 at h2
      rw [cBVn] at h0
      rw [cIVn] at h1 h2
      obtain ⟨x0, e0, _, m0⟩ := DataW.trod_string Tryz.underlying9 h0
      obtain ⟨x1, e1, _, _⟩ := DataW.trod_int Tryz.underlying2 h1
      obtain ⟨x2, e2, _, _⟩ := DataW.trod_int Tryz.underlying2 h2
      simp at e0 e1 e2
      subst e0 e1 e2
      exact ⟨(x0, x1, x2), rfl, by unfold maxLen at m0; omega⟩
set_option maxRecDepth 100000 in
theorem Vns_open {H : Type} {enc : TypeId × Value → H} {W : World} {base : Nat} {sp : Nat → Bool} {fuel : Nat} {cs : List Value} {x : DataW H × List MemPlace} (h : DataW.trod enc Tryz.prog W base sp true fuel 26 cs = some x) : ∃ ao n cap zs, cs = [.slice ao n cap] ∧ n ≤ 9223372036854775807 ∧ VnL W ao n zs := by
  rcases open_slice Tryz.underlying26 h with ⟨rfl, _⟩ | ⟨a, n0, c0, m, n, D, Pl, rfl, _, hl, hm, hmm, _, hi⟩
  · exact ⟨none, 0, 0, [], rfl, by omega, rfl, Or.inl rfl⟩
  · rw [cVn] at hi
    have hlm : n0 ≤ m := by rw [hmm]; split <;> omega
    have hi2 : ∀ i, i < n0 → ∃ q : Vn, q.1.size ≤ 9223372036854775807 ∧ W.cell? ((a.add (i * 3)).add 0) = some (.string q.1) ∧ W.cell? ((a.add (i * 3)).add 1) = some (.int .i64 q.2.1) ∧ W.cell? ((a.add (i * 3)).add 2) = some (.int .i64 q.2.2) := fun i him => by
      obtain ⟨cs', hc, ht⟩ := hi i (by omega)
      obtain ⟨_, hcl, hat⟩ := World.cells?_some hc
      obtain ⟨z, rfl, mz0⟩ := Vn_cells ht
      exact ⟨z, mz0, hat 0 (by omega), hat 1 (by omega), hat 2 (by omega)⟩
    obtain ⟨f, hfn⟩ := choose_lt hi2
    refine ⟨some a, n0, c0, (List.range n0).map f, rfl, by unfold maxLen at hm; omega, by simp, ?_⟩
    by_cases h0 : n0 = 0
    · exact Or.inl h0
    · right
      obtain ⟨b, off, spot⟩ := a
      have hspot : spot = none := by
        have := World.cell?_spot (hfn 0 (by omega)).2.1
        simpa [Addr.add] using this
      subst hspot
      refine ⟨b, off, rfl, fun j hj => ?_⟩
      have h2 := hfn j hj
      rw [add_off, add_off, add_off, add_off] at h2
      have hlt := cell_ltF h2.2.1
      have e : ((List.range n0).map f).getD j vn0 = f j := by simp [hj]
      rw [e]
      exact ⟨h2.1, hlt, h2.2⟩
set_option maxRecDepth 100000 in
theorem open_Vns {H : Type} {enc : TypeId × Value → H} {W : World} {base : Nat} {v : Value} {dd : DataW H} {p : List MemPlace} (hval : Value.okWide Tryz.prog W .any base 26 v)
    (h0 : DataW.Trod enc Tryz.prog W 0 (fun _ => true) true 26 v dd p) (hp : ∀ x ∈ p, x.block < W.heap.size) : ∃ ao n cap zs, v = .slice ao n cap ∧ n ≤ 9223372036854775807 ∧ VnL W ao n zs := by
  obtain ⟨ao0, n0, c0, rfl⟩ := okWide_slice Tryz.underlying26 hval
  obtain ⟨fuel, h⟩ := h0
  have hc0 : (Value.slice ao0 n0 c0).cells.toList = [.slice ao0 n0 c0] := rfl
  rw [hc0] at h
  obtain ⟨ao, n, cap, zs, e, hn, hv⟩ := Vns_open h
  cases e
  exact ⟨_, _, _, zs, rfl, hn, hv⟩
def VnSz1 (z : Vn) : Nat := z.1.size
def VnSzF (zs : List Vn) (j : Nat) : Nat := VnSz1 (zs.getD j vn0)
def VnSz (zs : List Vn) : Nat := zs.length + sumL (VnSzF zs) zs.length
theorem szVn_any (x0 : ByteArray) (x1 : Int) (x2 : Int) (l : Int) (w : World) (h0 : 0 ≤ l) (h1 : l ≤ 1048576) (hs : x0.size ≤ 9223372036854775807) : Calls Tryz.prog 21 #[.agg #[.string x0, .int .i64 x1, .int .i64 x2], .int .i64 l] w fun e w' => e = .returned (.int .i64 (lft l x0.size)) ∧ Below w.heap.size w w' := by
  have e1 : IntKind.i64.wrap (l - (x0.size : Int)) = l - (x0.size : Int) := IntWalk.i64_in _ (by omega)
  by_cases hl : (x0.size : Int) ≤ l
  · have hd : decide (l - (x0.size : Int) < 0) = false := by simp; omega
    rw [lft_ok hl]
    go_enter Tryz.func21, Tryz.ntmps21
    go_wp2
    go_ret
    exact ⟨rfl, one_alloc _⟩
  · have hd : decide (l - (x0.size : Int) < 0) = true := by simp; omega
    rw [lft_no hl]
    go_enter Tryz.func21, Tryz.ntmps21
    go_wp2
    go_ret
    exact ⟨rfl, one_alloc _⟩
set_option maxRecDepth 100000 in
set_option maxHeartbeats 1000000 in
theorem szVns_any (ao : Option Addr) (m c : Nat) (zs : List Vn) (l : Int) (w : World) (h0 : 0 ≤ l) (hl : l ≤ 1048576) (hm : m ≤ 9223372036854775807) (hv : VnL w ao m zs) :
    Calls Tryz.prog 29 #[.slice ao m c, .int .i64 l] w fun e w' => e = .returned (.int .i64 (lft l (VnSz zs))) ∧ Below w.heap.size w w' := by
  have HV := Lib.hid hv
  have hmz := hv.1
  have e1 : IntKind.i64.wrap (l - (m : Int)) = l - (m : Int) := IntWalk.i64_in _ (by omega)
  by_cases hn : (m : Int) ≤ l
  · have e2 : decide (l - (m : Int) < 0) = false := by simp; omega
    have HF := Lib.hid (show VnSz zs = m + sumL (VnSzF zs) m by unfold VnSz; rw [← hmz])
    have HL := Lib.hid (fun k (h : k ≤ m) => sumL_le (VnSzF zs) h)
    generalize hg : VnSzF zs = g at *
    have HG := Lib.hid hg
    clear hv hg hmz
    go_enter Tryz.func29, Tryz.ntmps29
    go_wp2
    go_loopw [5, 1] (fun iv lv wr => ∃ k : Nat, k ≤ m ∧ iv = .int .i64 k ∧ Hid ((m : Int) + sumL g k ≤ l) ∧ lv = .int .i64 (l - m - sumL g k) ∧ Hid (Below w.heap.size w wr)) (fun i _ _ => m - (intOf i).toNat)
    case atStart => exact ⟨0, by omega, rfl, Lib.hid (by simp [sumL]; omega), by simp [sumL], Lib.hid (Below.refl _ _)⟩
    case round =>
      obtain ⟨k, hk, rfl, hs, rfl, hw⟩ := hrel
      have hs' := hs.out
      by_cases hlt : k < m
      · obtain ⟨b, off, rfl, hcs⟩ := (HV.out.below hw.out).2.resolve_left (by omega)
        obtain ⟨q1, hbw, cc0, cc1, cc2⟩ := hcs k hlt
        have HS := Lib.hid (show sumL g (k + 1) = sumL g k + (zs.getD k vn0).1.size by
          show sumL g k + g k = _
          rw [← HG.out]; rfl)
        clear hcs
        generalize zs.getD k vn0 = z at *
        obtain ⟨x0, x1, x2⟩ := z
        simp only at q1 cc0 cc1 cc2 HS
        generalize hsk : sumL g k = sk at *
        by_cases hq : ((x0.size : Nat) : Int) ≤ l - m - sk
        · have HQ := Lib.hid (lft_ok hq)
          have e3 : decide (l - (m : Int) - sk - ((x0.size : Nat) : Int) < 0) = false := by simp; omega
          go_wp2_with fail
          refine (szVn_any x0 x1 x2 _ _ (by omega) (by omega) q1).mono ?_
          rintro e w1 ⟨rfl, g1⟩
          have HB := Lib.hid (bseq hw.out g1)
          clear g1
          rw [HQ.out]
          go_wp2
          go_roundw
          case rel => exact ⟨k + 1, by omega, by go_num, Lib.hid (by rw [HS.out]; omega), by rw [HS.out]; exact val_int (by omega), HB⟩
          case measure => simp [intOf]; omega
        · have HQ := Lib.hid (lft_no hq)
          have HR := Lib.hid (show lft l (VnSz zs) = -1 by
            refine lft_no ?_
            have h1 := HL.out (k + 1) (by omega)
            rw [HF.out]; rw [HS.out] at h1; omega)
          go_wp2_with fail
          refine (szVn_any x0 x1 x2 _ _ (by omega) (by omega) q1).mono ?_
          rintro e w1 ⟨rfl, g1⟩
          have HB := Lib.hid (bseq hw.out g1)
          clear g1
          rw [HQ.out]
          go_wp2
          go_ret
          exact ⟨ret_int HR.out.symm, HB.out⟩
      · obtain rfl : k = m := by omega
        have HR := Lib.hid (show lft l (VnSz zs) = l - k - sumL g k by rw [lft_ok (by rw [HF.out]; omega), HF.out]; omega)
        go_wp2
        go_ret
        exact ⟨ret_int HR.out.symm, hw.out⟩
  · have HR := Lib.hid (show lft l (VnSz zs) = -1 by refine lft_no ?_; unfold VnSz; omega)
    have e2 : decide (l - (m : Int) < 0) = true := by simp; omega
    clear hv
    go_enter Tryz.func29, Tryz.ntmps29
    go_wp2
    go_ret
    exact ⟨ret_int HR.out.symm, Below.refl _ _⟩
theorem toVn_any (x0 : ByteArray) (x1 : Int) (x2 : Int) (w : World) : Calls Tryz.prog 23 #[.agg #[.string x0, .int .i64 x1, .int .i64 x2]] w fun e w' => e = .returned (.agg #[.string x0, .int .i64 x1, .int .i64 x2]) ∧ Below w.heap.size w w' := by
  go_enter Tryz.func23, Tryz.ntmps23
  go_wp2
  refine bodyPost_ret (v := .agg #[.string x0, .int .i64 x1, .int .i64 x2]) (by simp [results, Tryz.results23, go_sem]) rfl ⟨rfl, ?_⟩
  have HB0 := Below.refl w.heap.size w
  (repeat (first | exact HB0 | refine Below.setCell ?_ (by first | exact Nat.le_refl _ | (dsimp only; omega) | (simp; done) | (simp; omega)) _ | refine Below.alloc ?_ (by first | exact Nat.le_refl _ | omega | (simp; done) | (simp; omega)) _))
theorem infoVn : (Tryz.prog.info? 54).map (fun i => (i.zero, i.size, i.bytes)) = some (some (.agg #[.string ⟨#[]⟩, .int .i64 0, .int .i64 0]), 3, 32) := by kernel_rfl
theorem makeVn (n : Nat) (hn : n ≤ 1048576) (w : World) : (Instr.makeSlice 35 (.int .i64 (n : Int)) (.int .i64 (n : Int))).run Tryz.prog w = .ok (.slice (some ⟨w.heap.size, 0, none⟩) n n) (w.alloc (.cells (madeCells #[.string ⟨#[]⟩, .int .i64 0, .int .i64 0] (n * 3)) 54)) := by
  obtain ⟨i0, hi, hz0, hz1, hz2⟩ := info_parts infoVn
  have h := run_make (P := Tryz.prog) w 35 54 i0 _ Tryz.underlying35 hi hz0 .i64 .i64 n n (by omega) (by omega) (by rw [hz2]; omega) (by omega)
  rw [hz1, show (Value.agg #[.string ⟨#[]⟩, .int .i64 0, .int .i64 0]).cells = #[.string ⟨#[]⟩, .int .i64 0, .int .i64 0] from rfl] at h
  simpa using h
/-- The cells of one; of a row of which the first k are laid. -/
def VnC (z : Vn) (i : Nat) : Value := if i = 0 then .string z.1 else if i = 1 then .int .i64 z.2.1 else .int .i64 z.2.2
def VnZ (i : Nat) : Value := if i = 0 then .string ⟨#[]⟩ else if i = 1 then .int .i64 0 else .int .i64 0
def VnF (zs : List Vn) (k j : Nat) : Value := if j < k * 3 then VnC (zs.getD (j / 3) vn0) (j % 3) else VnZ (j % 3)
theorem madeVn (w : World) (n : Nat) (zs : List Vn) (t : TypeId) : (w.alloc (.cells (madeCells #[.string ⟨#[]⟩, .int .i64 0, .int .i64 0] (n * 3)) t)).rowIs w.heap.size t (n * 3) (VnF zs 0) := by
  have h := World.rowIs_alloc w (madeCells #[.string ⟨#[]⟩, .int .i64 0, .int .i64 0] (n * 3)) t (VnF zs 0) (fun i hi => by
    rw [size_madeCells] at hi
    have h2 : i % 3 = 0 ∨ i % 3 = 1 ∨ i % 3 = 2 := by omega
    rcases h2 with h2 | h2 | h2 <;> simp [madeCells, hi, VnF, VnZ, h2])
  rw [size_madeCells] at h
  exact h
theorem VnF_step {zs : List Vn} {k : Nat} {x0 : ByteArray} {x1 : Int} {x2 : Int} (h : zs.getD k vn0 = (x0, x1, x2)) (j : Nat) : (if j = k * 3 + 2 then Value.int .i64 x2 else if j = k * 3 + 1 then Value.int .i64 x1 else if j = k * 3 then Value.string x0 else VnF zs k j) = VnF zs (k + 1) j := by
  unfold VnF
  by_cases h2_ : j = k * 3 + 2
  · subst h2_
    have a1 : (k * 3 + 2) / 3 = k := by omega
    have a2 : (k * 3 + 2) % 3 = 2 := by omega
    rw [if_pos rfl, if_pos (by omega), a1, a2, h]; rfl
  rw [if_neg h2_]
  by_cases h1_ : j = k * 3 + 1
  · subst h1_
    have a1 : (k * 3 + 1) / 3 = k := by omega
    have a2 : (k * 3 + 1) % 3 = 1 := by omega
    rw [if_pos rfl, if_pos (by omega), a1, a2, h]; rfl
  rw [if_neg h1_]
  by_cases h0_ : j = k * 3
  · subst h0_
    have a1 : (k * 3) / 3 = k := by omega
    have a2 : (k * 3) % 3 = 0 := by omega
    rw [if_pos rfl, if_pos (by omega), a1, a2, h]; rfl
  rw [if_neg h0_]
  by_cases h3 : j < k * 3
  · rw [if_pos h3, if_pos (show j < (k + 1) * 3 by omega)]
  · rw [if_neg h3, if_neg (show ¬ j < (k + 1) * 3 by omega)]
theorem Vn_row {w : World} {b n : Nat} {t : TypeId} {zs : List Vn} (hz : n = zs.length) (h : w.rowIs b t (n * 3) (VnF zs n)) : VnV w (some ⟨b, 0, none⟩) n zs := by
  refine ⟨hz, Or.inr ⟨b, rfl, fun j hj => ⟨h.lt, ?_, ?_, ?_⟩⟩⟩
  · have h1 := h.cell (i := j * 3) (by omega)
    have a1 : (j * 3) / 3 = j := by omega
    have a2 : (j * 3) % 3 = 0 := by omega
    rw [VnF, if_pos (by omega), a1, a2] at h1
    simpa [VnC] using h1
  · have h1 := h.cell (i := j * 3 + 1) (by omega)
    have a1 : (j * 3 + 1) / 3 = j := by omega
    have a2 : (j * 3 + 1) % 3 = 1 := by omega
    rw [VnF, if_pos (by omega), a1, a2] at h1
    simpa [VnC] using h1
  · have h1 := h.cell (i := j * 3 + 2) (by omega)
    have a1 : (j * 3 + 2) / 3 = j := by omega
    have a2 : (j * 3 + 2) % 3 = 2 := by omega
    rw [VnF, if_pos (by omega), a1, a2] at h1
    simpa [VnC] using h1
def VnPost (n : Nat) (zs : List Vn) (w : World) (e : Ending) (w' : World) : Prop := ∃ g, e = .returned (.slice (some ⟨g, 0, none⟩) n n) ∧ w.heap.size ≤ g ∧ w'.rowIs g 54 (n * 3) (VnF zs n) ∧ Below w.heap.size w w'
set_option maxRecDepth 100000 in
set_option maxHeartbeats 4000000 in
theorem toVns_own (ao : Option Addr) (m c : Nat) (zs : List Vn) (w : World) (hm : m ≤ 1048576) (hv : VnL w ao m zs) :
    Calls Tryz.prog 32 #[.slice ao m c] w (VnPost m zs w) := by
  have HV := Lib.hid hv
  have HZ := Lib.hid hv.1
  clear hv
  have hmk := makeVn m hm
  go_enter Tryz.func32, Tryz.ntmps32
  go_wp2
  clear hmk
  go_loopw [4] (fun iv wr => ∃ k : Nat, k ≤ m ∧ iv = .int .i64 k ∧ Hid (wr.rowIs w.heap.size 54 (m * 3) (VnF zs k)) ∧ Hid (Below w.heap.size w wr)) (fun i _ => m - (intOf i).toNat)
  case atStart => exact ⟨0, by omega, rfl, Lib.hid (madeVn w m zs _), Lib.hid (one_alloc _)⟩
  case round =>
    obtain ⟨k, hk, rfl, hr, hb⟩ := hrel
    by_cases hlt : k < m
    · obtain ⟨b, off, rfl, hcs⟩ := (HV.out.below hb.out).2.resolve_left (by omega)
      obtain ⟨q0, hbw, cc0, cc1, cc2⟩ := hcs k hlt
      have HROW := Lib.hid hr.out
      have hgw := hr.out.lt
      obtain ⟨z, e⟩ : ∃ z, zs.getD k vn0 = z := ⟨_, rfl⟩
      rw [e] at cc0 cc1 cc2
      obtain ⟨x0, x1, x2⟩ := z
      simp only at cc0 cc1 cc2
      have HE := Lib.hid (VnF_step e)
      clear hcs e hr
      go_wp2_with fail
      refine (toVn_any x0 x1 x2 _).mono ?_
      rintro e' w1 ⟨rfl, hb1⟩
      have HB1 := Lib.hid hb1
      have hr1 := rowIs_below HROW.out hb1
      have d0 := hr1.cell (i := k * 3) (by omega)
      rw [VnF, if_neg (by omega)] at d0
      have d1 := hr1.cell (i := k * 3 + 1) (by omega)
      rw [VnF, if_neg (by omega)] at d1
      have d2 := hr1.cell (i := k * 3 + 2) (by omega)
      rw [VnF, if_neg (by omega)] at d2
      have f0 := hr1.frozen (k * 3)
      have f1 := hr1.frozen (k * 3 + 1)
      have f2 := hr1.frozen (k * 3 + 2)
      have HR1 := Lib.hid hr1
      have hw1 := hb1.size
      clear hb1 hr1 cc0 cc1 cc2
      go_wp2
      go_roundw
      case rel => exact ⟨k + 1, by omega, by go_num, Lib.hid ((((HR1.out.set (k * 3) _).set (k * 3 + 1) _).set (k * 3 + 2) _).congr (fun j _ => HE.out j)), Lib.hid ((((bseq hb.out HB1.out).setCell (Nat.le_refl _) _).setCell (Nat.le_refl _) _).setCell (Nat.le_refl _) _)⟩
      case measure => simp [intOf]; omega
    · obtain rfl : k = m := by omega
      go_wp2
      go_ret
      exact ⟨_, rfl, Nat.le_refl _, hr.out, hb.out⟩
theorem eqVn_same (x0 : ByteArray) (x1 : Int) (x2 : Int) (w : World) : Calls Tryz.prog 74 #[.agg #[.string x0, .int .i64 x1, .int .i64 x2], .agg #[.string x0, .int .i64 x1, .int .i64 x2]] w fun e w' => e = .returned (.bool true) ∧ Below w.heap.size w w' := by
  go_enter Tryz.func74, Tryz.ntmps74
  go_wp2
  go_ret
  exact ⟨rfl, two_allocs _ _⟩
set_option maxRecDepth 100000 in
set_option maxHeartbeats 1000000 in
theorem eqVns_same (ao bo : Option Addr) (m c d : Nat) (zs : List Vn) (w : World) (hm : m ≤ 1048576) (ha : VnV w ao m zs) (hb : VnV w bo m zs) :
    Calls Tryz.prog 36 #[.slice ao m c, .slice bo m d] w fun e w' => e = .returned (.bool true) ∧ Below w.heap.size w w' := by
  have HA := Lib.hid ha
  have HB := Lib.hid hb
  clear ha hb
  go_enter Tryz.func36, Tryz.ntmps36
  go_wp2
  go_loopw [5] (fun iv wr => ∃ k : Nat, k ≤ m ∧ iv = .int .i64 k ∧ Hid (Below w.heap.size w wr)) (fun i _ => m - (intOf i).toNat)
  case atStart => exact ⟨0, by omega, rfl, Lib.hid (Below.refl _ _)⟩
  case round =>
    obtain ⟨k, hk, rfl, hw⟩ := hrel
    by_cases hlt : k < m
    · obtain ⟨a, rfl, hca⟩ := (HA.out.below hw.out).2.resolve_left (by omega)
      obtain ⟨b, rfl, hcb⟩ := (HB.out.below hw.out).2.resolve_left (by omega)
      obtain ⟨haw, aa0, aa1, aa2⟩ := hca k hlt
      obtain ⟨hbw, bb0, bb1, bb2⟩ := hcb k hlt
      clear hca hcb
      generalize zs.getD k vn0 = z at *
      obtain ⟨x0, x1, x2⟩ := z
      simp only at aa0 aa1 aa2 bb0 bb1 bb2
      go_wp2
      refine wp_region_below (by kernel_rfl) (by kernel_rfl) ?_
      repeat (first | (refine wq_skip ?_ ?_; (focus (go_simp; (first | done | (simp [undef]; done)))); (try simp only [Act.put, List.setIfInBounds_toArray, List.set_cons_zero, List.set_cons_succ])) | (refine wq_val ?_ ?_; (focus (go_simp; done)); apply Exists.intro; refine ⟨fun w1 hw1 => ?_, ?_⟩; (obtain ⟨hc, hf⟩ := bcell hw1; clear hw1; go_simp; (first | done | with_reducible rfl | (with_reducible exact eql2 _ _ _) | (with_reducible exact neq2 _ _ _))); (try simp only [Act.put, List.setIfInBounds_toArray, List.set_cons_zero, List.set_cons_succ])) | (refine wq_call 74 ?_ ?_; (focus (go_simp; done)); apply Exists.intro; refine ⟨fun w1 hw1 => ?_, ?_⟩; (focus (clear hw1; go_simp; (first | done | with_reducible rfl))); apply Exists.intro; refine ⟨fun w1 hw1 => ?_, ?_⟩; (focus (exact calls_below hw1 (eqVn_same x0 x1 x2 _); done)); (try simp only [Act.put, List.setIfInBounds_toArray, List.set_cons_zero, List.set_cons_succ])))
      refine wq_nil ?_
      intro w1 hb1
      have HB1 := Lib.hid hb1
      clear hb1
      go_wp2
      go_roundw
      case rel => exact ⟨k + 1, by omega, by go_num, Lib.hid (bseq hw.out HB1.out)⟩
      case measure => simp [intOf]; omega
    · go_wp2
      go_ret
      exact ⟨rfl, hw.out⟩
end Go.Proofs.YtkmmhkhbpfkmcaaGreatDoor
