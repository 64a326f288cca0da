/- The table of species: impl's variable, spec's lists; the index of a name. -/
import Derived.Test.YtmfchcaidfloaaaSeq3
import Derived.Laws.Rows
import Derived.RangeFuncRecord
namespace Go.Proofs.Ytmfchcaidfloaaa
open Seq2 Go.ChangeShapes Go.WideShapes Go.ChangeAt Go.RowKit
set_option linter.unusedVariables false
set_option linter.unusedSimpArgs false

/-- A row of the table: name, shade, hardness, swelling. -/
def spTab : List (List UInt8 × Int × Int × Int) := [([97, 115, 104], 20, 40, 310), ([98, 101, 101, 99, 104], 35, 45, 410), ([98, 105, 114, 99, 104], 15, 33, 280), ([99, 104, 101, 114, 114, 121], 50, 36, 240), ([101, 98, 111, 110, 121], 95, 85, 270), ([104, 111, 108, 108, 121], 5, 35, 370), ([109, 97, 112, 108, 101], 10, 42, 290), ([111, 97, 107], 40, 40, 330), ([114, 111, 115, 101, 119, 111, 111, 100], 80, 60, 220), ([119, 97, 108, 110, 117, 116], 70, 38, 260)]
def spRow (k : Nat) : List UInt8 × Int × Int × Int := spTab.getD k ([], 0, 0, 0)
def spN (k : Nat) : ByteArray := ⟨(spRow k).1.toArray⟩
def spS (k : Nat) : Int := (spRow k).2.1
def spH (k : Nat) : Int := (spRow k).2.2.1
def spW (k : Nat) : Int := (spRow k).2.2.2
def tabC : Array Value := #[.string ⟨#[97, 115, 104]⟩, .int .i64 20, .int .i64 40, .int .i64 310, .string ⟨#[98, 101, 101, 99, 104]⟩, .int .i64 35, .int .i64 45, .int .i64 410, .string ⟨#[98, 105, 114, 99, 104]⟩, .int .i64 15, .int .i64 33, .int .i64 280, .string ⟨#[99, 104, 101, 114, 114, 121]⟩, .int .i64 50, .int .i64 36, .int .i64 240, .string ⟨#[101, 98, 111, 110, 121]⟩, .int .i64 95, .int .i64 85, .int .i64 270, .string ⟨#[104, 111, 108, 108, 121]⟩, .int .i64 5, .int .i64 35, .int .i64 370, .string ⟨#[109, 97, 112, 108, 101]⟩, .int .i64 10, .int .i64 42, .int .i64 290, .string ⟨#[111, 97, 107]⟩, .int .i64 40, .int .i64 40, .int .i64 330, .string ⟨#[114, 111, 115, 101, 119, 111, 111, 100]⟩, .int .i64 80, .int .i64 60, .int .i64 220, .string ⟨#[119, 97, 108, 110, 117, 116]⟩, .int .i64 70, .int .i64 38, .int .i64 260]
def namC : Array Value := #[.string ⟨#[97, 115, 104]⟩, .string ⟨#[98, 101, 101, 99, 104]⟩, .string ⟨#[98, 105, 114, 99, 104]⟩, .string ⟨#[99, 104, 101, 114, 114, 121]⟩, .string ⟨#[101, 98, 111, 110, 121]⟩, .string ⟨#[104, 111, 108, 108, 121]⟩, .string ⟨#[109, 97, 112, 108, 101]⟩, .string ⟨#[111, 97, 107]⟩, .string ⟨#[114, 111, 115, 101, 119, 111, 111, 100]⟩, .string ⟨#[119, 97, 108, 110, 117, 116]⟩]
theorem nam_cell (k : Nat) (hk : k < 10) : namC[k]? = some (.string (spN k)) := by
  match k, hk with
  | 0, _ => rfl
  | 1, _ => rfl
  | 2, _ => rfl
  | 3, _ => rfl
  | 4, _ => rfl
  | 5, _ => rfl
  | 6, _ => rfl
  | 7, _ => rfl
  | 8, _ => rfl
  | 9, _ => rfl

def eqN (nm : ByteArray) (j : Nat) : Bool := (spN j).toList == nm.toList
def ixN (nm : ByteArray) : Nat := ((List.range 10).find? (eqN nm)).getD 10
theorem ixN_at {nm : ByteArray} {k : Nat} (hk : k < 10) (h : ∀ j, j < k → eqN nm j = false) (hf : eqN nm k = true) : ixN nm = k := by
  unfold ixN
  have : (List.range 10).find? (eqN nm) = some k := by
    rw [List.find?_range_eq_some]
    refine ⟨hf, by simpa using hk, fun j hj => by simp [h j hj]⟩
  rw [this]; rfl
theorem ixN_none {nm : ByteArray} (h : ∀ j, j < 10 → eqN nm j = false) : ixN nm = 10 := by
  unfold ixN
  have : (List.range 10).find? (eqN nm) = none := by
    rw [List.find?_range_eq_none]
    intro j hj
    simp [h j hj]
  rw [this]; rfl
/-- As spec has it: -1 where there is none. -/
def ixV (nm : ByteArray) : Int := if ixN nm < 10 then (ixN nm : Int) else -1
/-- The rows of numbers of spec, a slice of slices. -/
def TblAt (w : World) (b : Nat) : Prop := b < w.heap.size ∧ ∀ k, k < 10 → ∃ c, c < w.heap.size ∧ w.cell? ⟨b, k, none⟩ = some (.slice (some ⟨c, 0, none⟩) 3 3) ∧ w.cell? ⟨c, 0, none⟩ = some (.int .i64 (spS k)) ∧ w.cell? ⟨c, 1, none⟩ = some (.int .i64 (spH k)) ∧ w.cell? ⟨c, 2, none⟩ = some (.int .i64 (spW k))
theorem TblAt.below {w w' : World} {b : Nat} (h : TblAt w b) (hb : Below w.heap.size w w') : TblAt w' b :=
  ⟨Nat.lt_of_lt_of_le h.1 hb.size, fun k hk => by
    obtain ⟨c, h0, h1, h2, h3, h4⟩ := h.2 k hk
    exact ⟨c, Nat.lt_of_lt_of_le h0 hb.size, (hb.cell (p := ⟨b, k, none⟩) h.1).trans h1, (hb.cell (p := ⟨c, 0, none⟩) h0).trans h2, (hb.cell (p := ⟨c, 1, none⟩) h0).trans h3, (hb.cell (p := ⟨c, 2, none⟩) h0).trans h4⟩⟩
end Go.Proofs.Ytmfchcaidfloaaa
