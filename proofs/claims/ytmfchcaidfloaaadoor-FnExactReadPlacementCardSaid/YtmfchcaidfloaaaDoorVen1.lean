/- The table of species: impl's variable, spec's lists; the index of a name. -/
import Derived.Test.YtmfchcaidfloaaaDoorSeq3
import Derived.Laws.Rows
import Derived.RangeFuncRecord
namespace Go.Proofs.YtmfchcaidfloaaaDoor
open Seq2 Go.ChangeShapes Go.WideShapes Go.ChangeAt Go.RowKit
set_option linter.unusedVariables false
set_option linter.unusedSimpArgs false

/-- A row of the table: name, shade, hardness, swelling. -/
def spTab : List (List UInt8 × Int × Int × Int) := [([97, 115, 104], 20, 40, 310), ([98, 101, 101, 99, 104], 35, 45, 410), ([98, 105, 114, 99, 104], 15, 33, 280), ([99, 104, 101, 114, 114, 121], 50, 36, 240), ([101, 98, 111, 110, 121], 95, 85, 270), ([104, 111, 108, 108, 121], 5, 35, 370), ([109, 97, 112, 108, 101], 10, 42, 290), ([111, 97, 107], 40, 40, 330), ([114, 111, 115, 101, 119, 111, 111, 100], 80, 60, 220), ([119, 97, 108, 110, 117, 116], 70, 38, 260)]
def spRow (k : Nat) : List UInt8 × Int × Int × Int := spTab.getD k ([], 0, 0, 0)
def spN (k : Nat) : ByteArray := ⟨(spRow k).1.toArray⟩
def spS (k : Nat) : Int := (spRow k).2.1
def spH (k : Nat) : Int := (spRow k).2.2.1
def spW (k : Nat) : Int := (spRow k).2.2.2
def tabC : Array Value := #[.string ⟨#[97, 115, 104]⟩, .int .i64 20, .int .i64 40, .int .i64 310, .string ⟨#[98, 101, 101, 99, 104]⟩, .int .i64 35, .int .i64 45, .int .i64 410, .string ⟨#[98, 105, 114, 99, 104]⟩, .int .i64 15, .int .i64 33, .int .i64 280, .string ⟨#[99, 104, 101, 114, 114, 121]⟩, .int .i64 50, .int .i64 36, .int .i64 240, .string ⟨#[101, 98, 111, 110, 121]⟩, .int .i64 95, .int .i64 85, .int .i64 270, .string ⟨#[104, 111, 108, 108, 121]⟩, .int .i64 5, .int .i64 35, .int .i64 370, .string ⟨#[109, 97, 112, 108, 101]⟩, .int .i64 10, .int .i64 42, .int .i64 290, .string ⟨#[111, 97, 107]⟩, .int .i64 40, .int .i64 40, .int .i64 330, .string ⟨#[114, 111, 115, 101, 119, 111, 111, 100]⟩, .int .i64 80, .int .i64 60, .int .i64 220, .string ⟨#[119, 97, 108, 110, 117, 116]⟩, .int .i64 70, .int .i64 38, .int .i64 260]
def namC : Array Value := #[.string ⟨#[97, 115, 104]⟩, .string ⟨#[98, 101, 101, 99, 104]⟩, .string ⟨#[98, 105, 114, 99, 104]⟩, .string ⟨#[99, 104, 101, 114, 114, 121]⟩, .string ⟨#[101, 98, 111, 110, 121]⟩, .string ⟨#[104, 111, 108, 108, 121]⟩, .string ⟨#[109, 97, 112, 108, 101]⟩, .string ⟨#[111, 97, 107]⟩, .string ⟨#[114, 111, 115, 101, 119, 111, 111, 100]⟩, .string ⟨#[119, 97, 108, 110, 117, 116]⟩]
/-- The variable holds the table. -/
def TabAt (w : World) : Prop := ∃ t fr, w.heap[5]? = some (.cells tabC t fr)
theorem TabAt.lt {w : World} (h : TabAt w) : 5 < w.heap.size := by
  obtain ⟨t, fr, h⟩ := h
  exact (Array.getElem?_eq_some_iff.1 h).1
theorem TabAt.below {w w' : World} (h : TabAt w) (hb : Below w.heap.size w w') : TabAt w' := by
  have hl := h.lt
  obtain ⟨t, fr, h⟩ := h
  exact ⟨t, fr, (hb.block _ hl).trans h⟩
theorem tab_info : (Tryd.prog.info? 144).map (·.size) = some tabC.size := by kernel_rfl
theorem tab_load {w : World} (h : TabAt w) : (Instr.loadAt 144 (.pointer (some ⟨5, 0, none⟩))).run Tryd.prog w = .ok (.agg tabC) w := by
  obtain ⟨t, fr, h⟩ := h
  simp only [Instr.loadAt, Instr.sureAddr, Sem.run_bind, Sem.run_pure, Result.andThen_ok, run_loadVar_row (P := Tryd.prog) w 5 t 144 tabC fr _ h Tryd.underlying144 rfl tab_info]
theorem tab_ix0 (w : World) : (Instr.index 144 (.agg tabC) (.int .i64 ((0 : Nat) : Int))).run Tryd.prog w = .ok (.agg #[.string (spN 0), .int .i64 (spS 0), .int .i64 (spH 0), .int .i64 (spW 0)]) w := by kernel_rfl
theorem tab_ix1 (w : World) : (Instr.index 144 (.agg tabC) (.int .i64 ((1 : Nat) : Int))).run Tryd.prog w = .ok (.agg #[.string (spN 1), .int .i64 (spS 1), .int .i64 (spH 1), .int .i64 (spW 1)]) w := by kernel_rfl
theorem tab_ix2 (w : World) : (Instr.index 144 (.agg tabC) (.int .i64 ((2 : Nat) : Int))).run Tryd.prog w = .ok (.agg #[.string (spN 2), .int .i64 (spS 2), .int .i64 (spH 2), .int .i64 (spW 2)]) w := by kernel_rfl
theorem tab_ix3 (w : World) : (Instr.index 144 (.agg tabC) (.int .i64 ((3 : Nat) : Int))).run Tryd.prog w = .ok (.agg #[.string (spN 3), .int .i64 (spS 3), .int .i64 (spH 3), .int .i64 (spW 3)]) w := by kernel_rfl
theorem tab_ix4 (w : World) : (Instr.index 144 (.agg tabC) (.int .i64 ((4 : Nat) : Int))).run Tryd.prog w = .ok (.agg #[.string (spN 4), .int .i64 (spS 4), .int .i64 (spH 4), .int .i64 (spW 4)]) w := by kernel_rfl
theorem tab_ix5 (w : World) : (Instr.index 144 (.agg tabC) (.int .i64 ((5 : Nat) : Int))).run Tryd.prog w = .ok (.agg #[.string (spN 5), .int .i64 (spS 5), .int .i64 (spH 5), .int .i64 (spW 5)]) w := by kernel_rfl
theorem tab_ix6 (w : World) : (Instr.index 144 (.agg tabC) (.int .i64 ((6 : Nat) : Int))).run Tryd.prog w = .ok (.agg #[.string (spN 6), .int .i64 (spS 6), .int .i64 (spH 6), .int .i64 (spW 6)]) w := by kernel_rfl
theorem tab_ix7 (w : World) : (Instr.index 144 (.agg tabC) (.int .i64 ((7 : Nat) : Int))).run Tryd.prog w = .ok (.agg #[.string (spN 7), .int .i64 (spS 7), .int .i64 (spH 7), .int .i64 (spW 7)]) w := by kernel_rfl
theorem tab_ix8 (w : World) : (Instr.index 144 (.agg tabC) (.int .i64 ((8 : Nat) : Int))).run Tryd.prog w = .ok (.agg #[.string (spN 8), .int .i64 (spS 8), .int .i64 (spH 8), .int .i64 (spW 8)]) w := by kernel_rfl
theorem tab_ix9 (w : World) : (Instr.index 144 (.agg tabC) (.int .i64 ((9 : Nat) : Int))).run Tryd.prog w = .ok (.agg #[.string (spN 9), .int .i64 (spS 9), .int .i64 (spH 9), .int .i64 (spW 9)]) w := by kernel_rfl
theorem tab_index (k : Nat) (hk : k < 10) (w : World) : (Instr.index 144 (.agg tabC) (.int .i64 (k : Int))).run Tryd.prog w = .ok (.agg #[.string (spN k), .int .i64 (spS k), .int .i64 (spH k), .int .i64 (spW k)]) w := by
  match k, hk with
  | 0, _ => exact tab_ix0 w
  | 1, _ => exact tab_ix1 w
  | 2, _ => exact tab_ix2 w
  | 3, _ => exact tab_ix3 w
  | 4, _ => exact tab_ix4 w
  | 5, _ => exact tab_ix5 w
  | 6, _ => exact tab_ix6 w
  | 7, _ => exact tab_ix7 w
  | 8, _ => exact tab_ix8 w
  | 9, _ => exact tab_ix9 w

theorem nam_cell (k : Nat) (hk : k < 10) : namC[k]? = some (.string (spN k)) := by
  match k, hk with
  | 0, _ => rfl
  | 1, _ => rfl
  | 2, _ => rfl
  | 3, _ => rfl
  | 4, _ => rfl
  | 5, _ => rfl
  | 6, _ => rfl
  | 7, _ => rfl
  | 8, _ => rfl
  | 9, _ => rfl

def eqN (nm : ByteArray) (j : Nat) : Bool := (spN j).toList == nm.toList
def ixN (nm : ByteArray) : Nat := ((List.range 10).find? (eqN nm)).getD 10
theorem ixN_at {nm : ByteArray} {k : Nat} (hk : k < 10) (h : ∀ j, j < k → eqN nm j = false) (hf : eqN nm k = true) : ixN nm = k := by
  unfold ixN
  have : (List.range 10).find? (eqN nm) = some k := by
    rw [List.find?_range_eq_some]
    refine ⟨hf, by simpa using hk, fun j hj => by simp [h j hj]⟩
  rw [this]; rfl
theorem ixN_none {nm : ByteArray} (h : ∀ j, j < 10 → eqN nm j = false) : ixN nm = 10 := by
  unfold ixN
  have : (List.range 10).find? (eqN nm) = none := by
    rw [List.find?_range_eq_none]
    intro j hj
    simp [h j hj]
  rw [this]; rfl
/-- As spec has it: -1 where there is none. -/
def ixV (nm : ByteArray) : Int := if ixN nm < 10 then (ixN nm : Int) else -1
theorem names_spec (w : World) : Calls Tryd.prog 102 #[] w fun e w' => e = .returned (.slice (some ⟨w.heap.size, 0, none⟩) 10 10) ∧ w' = w.alloc (.cells namC 9) := by
  go_enter Tryd.func102, Tryd.ntmps102
  go_wp2
  go_ret
  exact ⟨rfl, rfl⟩
/-- The rows of numbers of spec, a slice of slices. -/
def TblAt (w : World) (b : Nat) : Prop := b < w.heap.size ∧ ∀ k, k < 10 → ∃ c, c < w.heap.size ∧ w.cell? ⟨b, k, none⟩ = some (.slice (some ⟨c, 0, none⟩) 3 3) ∧ w.cell? ⟨c, 0, none⟩ = some (.int .i64 (spS k)) ∧ w.cell? ⟨c, 1, none⟩ = some (.int .i64 (spH k)) ∧ w.cell? ⟨c, 2, none⟩ = some (.int .i64 (spW k))
theorem TblAt.below {w w' : World} {b : Nat} (h : TblAt w b) (hb : Below w.heap.size w w') : TblAt w' b :=
  ⟨Nat.lt_of_lt_of_le h.1 hb.size, fun k hk => by
    obtain ⟨c, h0, h1, h2, h3, h4⟩ := h.2 k hk
    exact ⟨c, Nat.lt_of_lt_of_le h0 hb.size, (hb.cell (p := ⟨b, k, none⟩) h.1).trans h1, (hb.cell (p := ⟨c, 0, none⟩) h0).trans h2, (hb.cell (p := ⟨c, 1, none⟩) h0).trans h3, (hb.cell (p := ⟨c, 2, none⟩) h0).trans h4⟩⟩
set_option maxRecDepth 100000 in
set_option maxHeartbeats 2000000 in
theorem find_ven (nm : ByteArray) (w : World) : Calls Tryd.prog 64 #[.string nm] w fun e w' => e = .returned (.int .i64 (ixV nm)) ∧ Below w.heap.size w w' := by
  go_enter Tryd.func64, Tryd.ntmps64
  go_wp2_with fail
  refine (names_spec _).mono ?_
  rintro e w1 ⟨rfl, rfl⟩
  have HB := Lib.hid (one_alloc (w := w) (.cells namC 9))
  have HN := Lib.hid (World.alloc_heap_new w (.cells namC 9))
  have hlen : namC.size = 10 := rfl
  clear hlen
  go_wp2
  go_loopw [4] (fun iv wr => ∃ k : Nat, k ≤ 10 ∧ iv = .int .i64 k ∧ Hid (∀ j, j < k → eqN nm j = false) ∧ w.alloc (.cells namC 9) = wr) (fun i _ => 10 - (intOf i).toNat)
  case atStart => exact ⟨0, by omega, rfl, Lib.hid (fun j hj => absurd hj (by omega)), rfl⟩
  case round =>
    obtain ⟨k, hk, rfl, hi, rfl⟩ := hrel
    by_cases hlt : k < 10
    · have hc := (cell_of_row _ _ k _ _ _ HN.out).trans (nam_cell k hlt)
      have HE := Lib.hid (show eqN nm k = ((spN k).toList == nm.toList) from rfl)
      cases hs : ((spN k).toList == nm.toList) with
      | true =>
        go_wp2
        go_ret
        have e := ixN_at hlt hi.out (HE.out.trans hs)
        exact ⟨ret_int (by simp [ixV, e, hlt]), HB.out⟩
      | false =>
        go_wp2
        go_roundw
        case rel => exact ⟨k + 1, by omega, by go_num, Lib.hid (fun j hj => (Nat.lt_succ_iff_lt_or_eq.1 hj).elim (hi.out j) (fun e => e ▸ HE.out.trans hs)), trivial⟩
        case measure => simp [intOf]; omega
    · obtain rfl : k = 10 := by omega
      go_wp2
      go_ret
      exact ⟨ret_int (by simp [ixV, ixN_none hi.out]), HB.out⟩
end Go.Proofs.YtmfchcaidfloaaaDoor
