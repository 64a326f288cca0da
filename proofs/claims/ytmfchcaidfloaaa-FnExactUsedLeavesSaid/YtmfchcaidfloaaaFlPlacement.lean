/- Slices of the struct Placement in laws: what came in, sizes, copies, equality. -/
import Derived.Test.YtmfchcaidfloaaaTyPlacement
import Derived.Test.YtmfchcaidfloaaaK5
import Derived.Test.YtmfchcaidfloaaaLft
import Derived.Lib.SmallJoins
import Derived.ChangeMaps5
namespace Go.Proofs.Ytmfchcaidfloaaa
open Seq2 Go.ChangeShapes Go.WideShapes Go.ChangeAt Go.RowKit Go.ChangeMaps Go.Joins Go.Deep
set_option linter.unusedVariables false
set_option linter.unusedSimpArgs false

/-- A slice that came in. -/
def PmL (w : World) (ao : Option Addr) (n : Nat) (zs : List Pm) : Prop := n = zs.length ∧ (n = 0 ∨ ∃ b off, ao = some ⟨b, off, none⟩ ∧ ∀ j, j < n → PmAt w b (off + j * 5) (zs.getD j pm0))
theorem PmL.below {w w' : World} {ao : Option Addr} {n : Nat} {zs : List Pm} (h : PmL w ao n zs) (hb : Below w.heap.size w w') : PmL w' ao n zs :=
  ⟨h.1, h.2.imp id fun ⟨b, off, e, h1⟩ => ⟨b, off, e, fun j hj => (h1 j hj).below hb⟩⟩
theorem cPm : Try.prog.cellsOf 47 = 5 := by kernel_rfl
theorem cBPm : Try.prog.cellsOf 9 = 1 := by kernel_rfl
theorem cIPm : Try.prog.cellsOf 2 = 1 := by kernel_rfl
set_option maxRecDepth 100000 in
theorem Pm_cells {H : Type} {enc : TypeId × Value → H} {W : World} {base : Nat} {sp : Nat → Bool} {fuel : Nat} {cs : List Value} {x : DataW H × List MemPlace} (h : DataW.trod enc Try.prog W base sp true fuel 47 cs = some x) :
    ∃ z : Pm, cs = [.int .i64 z.1, .int .i64 z.2.1, .int .i64 z.2.2.1, .int .i64 z.2.2.2.1, .int .i64 z.2.2.2.2] := by
  obtain ⟨xs, m, _, hx, hl, hlen, hf⟩ := DataW.trod_struct Try.underlying47 h
  rw [cPm] at hl
  match cs, hl with
  | [c0, c1, c2, c3, c4], _ =>
    match xs, hlen with
    | [y0, y1, y2, y3, y4], _ =>
      have h0 := hf 0 _ rfl
      have h1 := hf 1 _ rfl
      have h2 := hf 2 _ rfl
      have h3 := hf 3 _ rfl
      have h4 := hf 4 _ rfl
      change DataW.trod enc Try.prog W base sp true m 2 (([c0, c1, c2, c3, c4].drop 0).take (Try.prog.cellsOf 2)) = some y0 at h0
      change DataW.trod enc Try.prog W base sp true m 2 (([c0, c1, c2, c3, c4].drop 1).take (Try.prog.cellsOf 2)) = some y1 at h1
      change DataW.trod enc Try.prog W base sp true m 2 (([c0, c1, c2, c3, c4].drop 2).take (Try.prog.cellsOf 2)) = some y2 at h2
      change DataW.trod enc Try.prog W base sp true m 2 (([c0, c1, c2, c3, c4].drop 3).take (Try.prog.cellsOf 2)) = some y3 at h3
      change DataW.trod enc Try.prog W base sp true m 2 (([c0, c1, c2, c3, c4].drop 4).take (Try.prog.cellsOf 2)) = some y4 at h4
      rw [cIPm] at h0 h1 h2 h3 h4
      obtain ⟨x0, e0, _, _⟩ := DataW.trod_int Try.underlying2 h0
      obtain ⟨x1, e1, _, _⟩ := DataW.trod_int Try.underlying2 h1
      obtain ⟨x2, e2, _, _⟩ := DataW.trod_int Try.underlying2 h2
      obtain ⟨x3, e3, _, _⟩ := DataW.trod_int Try.underlying2 h3
      obtain ⟨x4, e4, _, _⟩ := DataW.trod_int Try.underlying2 h4
      simp at e0 e1 e2 e3 e4
      subst e0 e1 e2 e3 e4
      exact ⟨(x0, x1, x2, x3, x4), rfl⟩
set_option maxRecDepth 100000 in
theorem Pms_open {H : Type} {enc : TypeId × Value → H} {W : World} {base : Nat} {sp : Nat → Bool} {fuel : Nat} {cs : List Value} {x : DataW H × List MemPlace} (h : DataW.trod enc Try.prog W base sp true fuel 28 cs = some x) : ∃ ao n cap zs, cs = [.slice ao n cap] ∧ n ≤ 9223372036854775807 ∧ PmL W ao n zs := by
  rcases open_slice Try.underlying28 h with ⟨rfl, _⟩ | ⟨a, n0, c0, m, n, D, Pl, rfl, _, hl, hm, hmm, _, hi⟩
  · exact ⟨none, 0, 0, [], rfl, by omega, rfl, Or.inl rfl⟩
  · rw [cPm] at hi
    have hlm : n0 ≤ m := by rw [hmm]; split <;> omega
    have hi2 : ∀ i, i < n0 → ∃ q : Pm, W.cell? ((a.add (i * 5)).add 0) = some (.int .i64 q.1) ∧ W.cell? ((a.add (i * 5)).add 1) = some (.int .i64 q.2.1) ∧ W.cell? ((a.add (i * 5)).add 2) = some (.int .i64 q.2.2.1) ∧ W.cell? ((a.add (i * 5)).add 3) = some (.int .i64 q.2.2.2.1) ∧ W.cell? ((a.add (i * 5)).add 4) = some (.int .i64 q.2.2.2.2) := fun i him => by
      obtain ⟨cs', hc, ht⟩ := hi i (by omega)
      obtain ⟨_, hcl, hat⟩ := World.cells?_some hc
      obtain ⟨z, rfl⟩ := Pm_cells ht
      exact ⟨z, hat 0 (by omega), hat 1 (by omega), hat 2 (by omega), hat 3 (by omega), hat 4 (by omega)⟩
    obtain ⟨f, hfn⟩ := choose_lt hi2
    refine ⟨some a, n0, c0, (List.range n0).map f, rfl, by unfold maxLen at hm; omega, by simp, ?_⟩
    by_cases h0 : n0 = 0
    · exact Or.inl h0
    · right
      obtain ⟨b, off, spot⟩ := a
      have hspot : spot = none := by
        have := World.cell?_spot (hfn 0 (by omega)).1
        simpa [Addr.add] using this
      subst hspot
      refine ⟨b, off, rfl, fun j hj => ?_⟩
      have h2 := hfn j hj
      rw [add_off, add_off, add_off, add_off, add_off, add_off] at h2
      have hlt := cell_ltF h2.1
      have e : ((List.range n0).map f).getD j pm0 = f j := by simp [hj]
      rw [e]
      exact ⟨hlt, h2⟩
set_option maxRecDepth 100000 in
theorem open_Pms {H : Type} {enc : TypeId × Value → H} {W : World} {base : Nat} {v : Value} {dd : DataW H} {p : List MemPlace} (hval : Value.okWide Try.prog W .any base 28 v)
    (h0 : DataW.Trod enc Try.prog W 0 (fun _ => true) true 28 v dd p) (hp : ∀ x ∈ p, x.block < W.heap.size) : ∃ ao n cap zs, v = .slice ao n cap ∧ n ≤ 9223372036854775807 ∧ PmL W ao n zs := by
  obtain ⟨ao0, n0, c0, rfl⟩ := okWide_slice Try.underlying28 hval
  obtain ⟨fuel, h⟩ := h0
  have hc0 : (Value.slice ao0 n0 c0).cells.toList = [.slice ao0 n0 c0] := rfl
  rw [hc0] at h
  obtain ⟨ao, n, cap, zs, e, hn, hv⟩ := Pms_open h
  cases e
  exact ⟨_, _, _, zs, rfl, hn, hv⟩
def PmSz (zs : List Pm) : Nat := zs.length
set_option maxRecDepth 100000 in
set_option maxHeartbeats 1000000 in
theorem szPms_any (ao : Option Addr) (m c : Nat) (zs : List Pm) (l : Int) (w : World) (h0 : 0 ≤ l) (hl : l ≤ 1048576) (hm : m ≤ 9223372036854775807) (hv : PmL w ao m zs) :
    Calls Try.prog 9 #[.slice ao m c, .int .i64 l] w fun e w' => e = .returned (.int .i64 (lft l (PmSz zs))) ∧ Below w.heap.size w w' := by
  have HZ := Lib.hid (show PmSz zs = m from hv.1.symm)
  clear hv
  have e1 : IntKind.i64.wrap (l - (m : Int)) = l - (m : Int) := IntWalk.i64_in _ (by omega)
  rw [HZ.out]
  by_cases hn : (m : Int) ≤ l
  · rw [lft_ok hn]
    have e2 : decide (l - (m : Int) < 0) = false := by simp; omega
    go_enter Try.func9, Try.ntmps9
    go_wp2
    go_ret
    exact ⟨rfl, Below.refl _ _⟩
  · rw [lft_no hn]
    have e2 : decide (l - (m : Int) < 0) = true := by simp; omega
    go_enter Try.func9, Try.ntmps9
    go_wp2
    go_ret
    exact ⟨rfl, Below.refl _ _⟩
theorem toPm_any (x0 : Int) (x1 : Int) (x2 : Int) (x3 : Int) (x4 : Int) (w : World) : Calls Try.prog 24 #[.agg #[.int .i64 x0, .int .i64 x1, .int .i64 x2, .int .i64 x3, .int .i64 x4]] w fun e w' => e = .returned (.agg #[.int .i64 x0, .int .i64 x1, .int .i64 x2, .int .i64 x3, .int .i64 x4]) ∧ Below w.heap.size w w' := by
  go_enter Try.func24, Try.ntmps24
  go_wp2
  refine bodyPost_ret (v := .agg #[.int .i64 x0, .int .i64 x1, .int .i64 x2, .int .i64 x3, .int .i64 x4]) (by simp [results, Try.results24, go_sem]) rfl ⟨rfl, ?_⟩
  have HB0 := Below.refl w.heap.size w
  (repeat (first | exact HB0 | refine Below.setCell ?_ (by first | exact Nat.le_refl _ | (dsimp only; omega) | (simp; done) | (simp; omega)) _ | refine Below.alloc ?_ (by first | exact Nat.le_refl _ | omega | (simp; done) | (simp; omega)) _))
theorem infoPm : (Try.prog.info? 45).map (fun i => (i.zero, i.size, i.bytes)) = some (some (.agg #[.int .i64 0, .int .i64 0, .int .i64 0, .int .i64 0, .int .i64 0]), 5, 40) := by kernel_rfl
theorem makePm (n : Nat) (hn : n ≤ 1048576) (w : World) : (Instr.makeSlice 31 (.int .i64 (n : Int)) (.int .i64 (n : Int))).run Try.prog w = .ok (.slice (some ⟨w.heap.size, 0, none⟩) n n) (w.alloc (.cells (madeCells #[.int .i64 0, .int .i64 0, .int .i64 0, .int .i64 0, .int .i64 0] (n * 5)) 45)) := by
  obtain ⟨i0, hi, hz0, hz1, hz2⟩ := info_parts infoPm
  have h := run_make (P := Try.prog) w 31 45 i0 _ Try.underlying31 hi hz0 .i64 .i64 n n (by omega) (by omega) (by rw [hz2]; omega) (by omega)
  rw [hz1, show (Value.agg #[.int .i64 0, .int .i64 0, .int .i64 0, .int .i64 0, .int .i64 0]).cells = #[.int .i64 0, .int .i64 0, .int .i64 0, .int .i64 0, .int .i64 0] from rfl] at h
  simpa using h
/-- The cells of one; of a row of which the first k are laid. -/
def PmC (z : Pm) (i : Nat) : Value := if i = 0 then .int .i64 z.1 else if i = 1 then .int .i64 z.2.1 else if i = 2 then .int .i64 z.2.2.1 else if i = 3 then .int .i64 z.2.2.2.1 else .int .i64 z.2.2.2.2
def PmZ (i : Nat) : Value := if i = 0 then .int .i64 0 else if i = 1 then .int .i64 0 else if i = 2 then .int .i64 0 else if i = 3 then .int .i64 0 else .int .i64 0
def PmF (zs : List Pm) (k j : Nat) : Value := if j < k * 5 then PmC (zs.getD (j / 5) pm0) (j % 5) else PmZ (j % 5)
theorem madePm (w : World) (n : Nat) (zs : List Pm) (t : TypeId) : (w.alloc (.cells (madeCells #[.int .i64 0, .int .i64 0, .int .i64 0, .int .i64 0, .int .i64 0] (n * 5)) t)).rowIs w.heap.size t (n * 5) (PmF zs 0) := by
  have h := World.rowIs_alloc w (madeCells #[.int .i64 0, .int .i64 0, .int .i64 0, .int .i64 0, .int .i64 0] (n * 5)) t (PmF zs 0) (fun i hi => by
    rw [size_madeCells] at hi
    have h2 : i % 5 = 0 ∨ i % 5 = 1 ∨ i % 5 = 2 ∨ i % 5 = 3 ∨ i % 5 = 4 := by omega
    rcases h2 with h2 | h2 | h2 | h2 | h2 <;> simp [madeCells, hi, PmF, PmZ, h2])
  rw [size_madeCells] at h
  exact h
theorem PmF_step {zs : List Pm} {k : Nat} {x0 : Int} {x1 : Int} {x2 : Int} {x3 : Int} {x4 : Int} (h : zs.getD k pm0 = (x0, x1, x2, x3, x4)) (j : Nat) : (if j = k * 5 + 4 then Value.int .i64 x4 else if j = k * 5 + 3 then Value.int .i64 x3 else if j = k * 5 + 2 then Value.int .i64 x2 else if j = k * 5 + 1 then Value.int .i64 x1 else if j = k * 5 then Value.int .i64 x0 else PmF zs k j) = PmF zs (k + 1) j := by
  unfold PmF
  by_cases h4_ : j = k * 5 + 4
  · subst h4_
    have a1 : (k * 5 + 4) / 5 = k := by omega
    have a2 : (k * 5 + 4) % 5 = 4 := by omega
    rw [if_pos rfl, if_pos (by omega), a1, a2, h]; rfl
  rw [if_neg h4_]
  by_cases h3_ : j = k * 5 + 3
  · subst h3_
    have a1 : (k * 5 + 3) / 5 = k := by omega
    have a2 : (k * 5 + 3) % 5 = 3 := by omega
    rw [if_pos rfl, if_pos (by omega), a1, a2, h]; rfl
  rw [if_neg h3_]
  by_cases h2_ : j = k * 5 + 2
  · subst h2_
    have a1 : (k * 5 + 2) / 5 = k := by omega
    have a2 : (k * 5 + 2) % 5 = 2 := by omega
    rw [if_pos rfl, if_pos (by omega), a1, a2, h]; rfl
  rw [if_neg h2_]
  by_cases h1_ : j = k * 5 + 1
  · subst h1_
    have a1 : (k * 5 + 1) / 5 = k := by omega
    have a2 : (k * 5 + 1) % 5 = 1 := by omega
    rw [if_pos rfl, if_pos (by omega), a1, a2, h]; rfl
  rw [if_neg h1_]
  by_cases h0_ : j = k * 5
  · subst h0_
    have a1 : (k * 5) / 5 = k := by omega
    have a2 : (k * 5) % 5 = 0 := by omega
    rw [if_pos rfl, if_pos (by omega), a1, a2, h]; rfl
  rw [if_neg h0_]
  by_cases h3 : j < k * 5
  · rw [if_pos h3, if_pos (show j < (k + 1) * 5 by omega)]
  · rw [if_neg h3, if_neg (show ¬ j < (k + 1) * 5 by omega)]
theorem Pm_row {w : World} {b n : Nat} {t : TypeId} {zs : List Pm} (hz : n = zs.length) (h : w.rowIs b t (n * 5) (PmF zs n)) : PmV w (some ⟨b, 0, none⟩) n zs := by
  refine ⟨hz, Or.inr ⟨b, rfl, fun j hj => ⟨h.lt, ?_, ?_, ?_, ?_, ?_⟩⟩⟩
  · have h1 := h.cell (i := j * 5) (by omega)
    have a1 : (j * 5) / 5 = j := by omega
    have a2 : (j * 5) % 5 = 0 := by omega
    rw [PmF, if_pos (by omega), a1, a2] at h1
    simpa [PmC] using h1
  · have h1 := h.cell (i := j * 5 + 1) (by omega)
    have a1 : (j * 5 + 1) / 5 = j := by omega
    have a2 : (j * 5 + 1) % 5 = 1 := by omega
    rw [PmF, if_pos (by omega), a1, a2] at h1
    simpa [PmC] using h1
  · have h1 := h.cell (i := j * 5 + 2) (by omega)
    have a1 : (j * 5 + 2) / 5 = j := by omega
    have a2 : (j * 5 + 2) % 5 = 2 := by omega
    rw [PmF, if_pos (by omega), a1, a2] at h1
    simpa [PmC] using h1
  · have h1 := h.cell (i := j * 5 + 3) (by omega)
    have a1 : (j * 5 + 3) / 5 = j := by omega
    have a2 : (j * 5 + 3) % 5 = 3 := by omega
    rw [PmF, if_pos (by omega), a1, a2] at h1
    simpa [PmC] using h1
  · have h1 := h.cell (i := j * 5 + 4) (by omega)
    have a1 : (j * 5 + 4) / 5 = j := by omega
    have a2 : (j * 5 + 4) % 5 = 4 := by omega
    rw [PmF, if_pos (by omega), a1, a2] at h1
    simpa [PmC] using h1
def PmPost (n : Nat) (zs : List Pm) (w : World) (e : Ending) (w' : World) : Prop := ∃ g, e = .returned (.slice (some ⟨g, 0, none⟩) n n) ∧ w.heap.size ≤ g ∧ w'.rowIs g 45 (n * 5) (PmF zs n) ∧ Below w.heap.size w w'
set_option maxRecDepth 100000 in
set_option maxHeartbeats 4000000 in
theorem toPms_own (ao : Option Addr) (m c : Nat) (zs : List Pm) (w : World) (hm : m ≤ 1048576) (hv : PmL w ao m zs) :
    Calls Try.prog 11 #[.slice ao m c] w (PmPost m zs w) := by
  have HV := Lib.hid hv
  have HZ := Lib.hid hv.1
  clear hv
  have hmk := makePm m hm
  go_enter Try.func11, Try.ntmps11
  go_wp2
  clear hmk
  go_loopw [4] (fun iv wr => ∃ k : Nat, k ≤ m ∧ iv = .int .i64 k ∧ Hid (wr.rowIs w.heap.size 45 (m * 5) (PmF zs k)) ∧ Hid (Below w.heap.size w wr)) (fun i _ => m - (intOf i).toNat)
  case atStart => exact ⟨0, by omega, rfl, Lib.hid (madePm w m zs _), Lib.hid (one_alloc _)⟩
  case round =>
    obtain ⟨k, hk, rfl, hr, hb⟩ := hrel
    by_cases hlt : k < m
    · obtain ⟨b, off, rfl, hcs⟩ := (HV.out.below hb.out).2.resolve_left (by omega)
      obtain ⟨hbw, cc0, cc1, cc2, cc3, cc4⟩ := hcs k hlt
      have HROW := Lib.hid hr.out
      have hgw := hr.out.lt
      obtain ⟨z, e⟩ : ∃ z, zs.getD k pm0 = z := ⟨_, rfl⟩
      rw [e] at cc0 cc1 cc2 cc3 cc4
      obtain ⟨x0, x1, x2, x3, x4⟩ := z
      simp only at cc0 cc1 cc2 cc3 cc4
      have HE := Lib.hid (PmF_step e)
      clear hcs e hr
      go_wp2_with fail
      refine (toPm_any x0 x1 x2 x3 x4 _).mono ?_
      rintro e' w1 ⟨rfl, hb1⟩
      have HB1 := Lib.hid hb1
      have hr1 := rowIs_below HROW.out hb1
      have d0 := hr1.cell (i := k * 5) (by omega)
      rw [PmF, if_neg (by omega)] at d0
      have d1 := hr1.cell (i := k * 5 + 1) (by omega)
      rw [PmF, if_neg (by omega)] at d1
      have d2 := hr1.cell (i := k * 5 + 2) (by omega)
      rw [PmF, if_neg (by omega)] at d2
      have d3 := hr1.cell (i := k * 5 + 3) (by omega)
      rw [PmF, if_neg (by omega)] at d3
      have d4 := hr1.cell (i := k * 5 + 4) (by omega)
      rw [PmF, if_neg (by omega)] at d4
      have f0 := hr1.frozen (k * 5)
      have f1 := hr1.frozen (k * 5 + 1)
      have f2 := hr1.frozen (k * 5 + 2)
      have f3 := hr1.frozen (k * 5 + 3)
      have f4 := hr1.frozen (k * 5 + 4)
      have HR1 := Lib.hid hr1
      have hw1 := hb1.size
      clear hb1 hr1 cc0 cc1 cc2 cc3 cc4
      go_wp2
      go_roundw
      case rel => exact ⟨k + 1, by omega, by go_num, Lib.hid ((((((HR1.out.set (k * 5) _).set (k * 5 + 1) _).set (k * 5 + 2) _).set (k * 5 + 3) _).set (k * 5 + 4) _).congr (fun j _ => HE.out j)), Lib.hid ((((((bseq hb.out HB1.out).setCell (Nat.le_refl _) _).setCell (Nat.le_refl _) _).setCell (Nat.le_refl _) _).setCell (Nat.le_refl _) _).setCell (Nat.le_refl _) _)⟩
      case measure => simp [intOf]; omega
    · obtain rfl : k = m := by omega
      go_wp2
      go_ret
      exact ⟨_, rfl, Nat.le_refl _, hr.out, hb.out⟩
theorem eqPm_same (x0 : Int) (x1 : Int) (x2 : Int) (x3 : Int) (x4 : Int) (w : World) : Calls Try.prog 26 #[.agg #[.int .i64 x0, .int .i64 x1, .int .i64 x2, .int .i64 x3, .int .i64 x4], .agg #[.int .i64 x0, .int .i64 x1, .int .i64 x2, .int .i64 x3, .int .i64 x4]] w fun e w' => e = .returned (.bool true) ∧ Below w.heap.size w w' := by
  go_enter Try.func26, Try.ntmps26
  go_wp2
  go_ret
  exact ⟨rfl, two_allocs _ _⟩
set_option maxRecDepth 100000 in
set_option maxHeartbeats 1000000 in
theorem eqPms_same (ao bo : Option Addr) (m c d : Nat) (zs : List Pm) (w : World) (hm : m ≤ 1048576) (ha : PmV w ao m zs) (hb : PmV w bo m zs) :
    Calls Try.prog 13 #[.slice ao m c, .slice bo m d] w fun e w' => e = .returned (.bool true) ∧ Below w.heap.size w w' := by
  have HA := Lib.hid ha
  have HB := Lib.hid hb
  clear ha hb
  go_enter Try.func13, Try.ntmps13
  go_wp2
  go_loopw [5] (fun iv wr => ∃ k : Nat, k ≤ m ∧ iv = .int .i64 k ∧ Hid (Below w.heap.size w wr)) (fun i _ => m - (intOf i).toNat)
  case atStart => exact ⟨0, by omega, rfl, Lib.hid (Below.refl _ _)⟩
  case round =>
    obtain ⟨k, hk, rfl, hw⟩ := hrel
    by_cases hlt : k < m
    · obtain ⟨a, rfl, hca⟩ := (HA.out.below hw.out).2.resolve_left (by omega)
      obtain ⟨b, rfl, hcb⟩ := (HB.out.below hw.out).2.resolve_left (by omega)
      obtain ⟨haw, aa0, aa1, aa2, aa3, aa4⟩ := hca k hlt
      obtain ⟨hbw, bb0, bb1, bb2, bb3, bb4⟩ := hcb k hlt
      clear hca hcb
      generalize zs.getD k pm0 = z at *
      obtain ⟨x0, x1, x2, x3, x4⟩ := z
      simp only at aa0 aa1 aa2 aa3 aa4 bb0 bb1 bb2 bb3 bb4
      go_wp2
      refine wp_region_below (by kernel_rfl) (by kernel_rfl) ?_
      repeat (first | (refine wq_val ?_ ?_; (focus (go_simp; done)); apply Exists.intro; refine ⟨fun w1 hw1 => ?_, ?_⟩; (obtain ⟨hc, hf⟩ := bcell hw1; clear hw1; go_simp; (first | done | with_reducible rfl | (with_reducible exact eql2 _ _ _) | (with_reducible exact neq2 _ _ _))); (try simp only [Act.put, List.setIfInBounds_toArray, List.set_cons_zero, List.set_cons_succ])) | (refine wq_skip ?_ ?_; (focus (go_simp; (first | done | (simp [undef]; done)))); (try simp only [Act.put, List.setIfInBounds_toArray, List.set_cons_zero, List.set_cons_succ])) | (refine wq_call 26 ?_ ?_; (focus (go_simp; done)); apply Exists.intro; refine ⟨fun w1 hw1 => ?_, ?_⟩; (focus (clear hw1; go_simp; (first | done | with_reducible rfl))); apply Exists.intro; refine ⟨fun w1 hw1 => ?_, ?_⟩; (focus (exact calls_below hw1 (eqPm_same x0 x1 x2 x3 x4 _); done)); (try simp only [Act.put, List.setIfInBounds_toArray, List.set_cons_zero, List.set_cons_succ])))
      refine wq_nil ?_
      intro w1 hb1
      have HB1 := Lib.hid hb1
      clear hb1
      go_wp2
      go_roundw
      case rel => exact ⟨k + 1, by omega, by go_num, Lib.hid (bseq hw.out HB1.out)⟩
      case measure => simp [intOf]; omega
    · go_wp2
      go_ret
      exact ⟨rfl, hw.out⟩
end Go.Proofs.Ytmfchcaidfloaaa
