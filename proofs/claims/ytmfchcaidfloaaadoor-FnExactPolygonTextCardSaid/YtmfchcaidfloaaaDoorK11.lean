/- Several texts in one: Drw1, Drw2, MkText, Drw3, Drw4, Drw5. -/
import Derived.Test.YtmfchcaidfloaaaDoorK5
import Derived.Test.YtmfchcaidfloaaaDoorK8
import Derived.Test.YtmfchcaidfloaaaDoorLft
import Derived.Test.YtmfchcaidfloaaaDoorK1
import Derived.Test.YtmfchcaidfloaaaDoorProg
import Derived.Test.YtmfchcaidfloaaaDoorK15
import Derived.Laws.Concat
import Derived.Lib.Join
import Derived.LoopTactic
namespace Go.Proofs.YtmfchcaidfloaaaDoor
open Go.ChangeShapes Go.WideShapes Go.ChangeAt Go.RowKit Go.Joins Go.Deep
set_option linter.unusedVariables false

/-- A face: its name and its ring. -/
abbrev Fc := ByteArray × List Int
def fc0 : Fc := (ByteArray.empty, [])
structure Drw where
  wd : Int
  hg : Int
  ps : List P2
  fs : List Fc
/-- A slice of integers that came in. -/
def IL (w : World) (ao : Option Addr) (n : Nat) (zs : List Int) : Prop := n = zs.length ∧ (n = 0 ∨ ∃ b off, ao = some ⟨b, off, none⟩ ∧ b < w.heap.size ∧ ∀ j, j < n → w.cell? ⟨b, off + j, none⟩ = some (.int .i64 (zs.getD j 0)))
theorem IL.below {w w' : World} {ao : Option Addr} {n : Nat} {zs : List Int} (h : IL w ao n zs) (hb : Below w.heap.size w w') : IL w' ao n zs :=
  ⟨h.1, h.2.imp id fun ⟨b, off, e, h1, h2⟩ => ⟨b, off, e, Nat.lt_of_lt_of_le h1 hb.size, fun j hj => (hb.cell (p := ⟨b, off + j, none⟩) h1).trans (h2 j hj)⟩⟩
/-- A slice of faces that came in. -/
def FL (w : World) (ao : Option Addr) (m : Nat) (fs : List Fc) : Prop := m = fs.length ∧ (m = 0 ∨ ∃ b off, ao = some ⟨b, off, none⟩ ∧ b < w.heap.size ∧ ∀ j, j < m → (fs.getD j fc0).1.size ≤ 9223372036854775807 ∧ w.cell? ⟨b, off + j * 2, none⟩ = some (.string (fs.getD j fc0).1) ∧
  ∃ a n c, w.cell? ⟨b, off + j * 2 + 1, none⟩ = some (.slice a n c) ∧ n ≤ 9223372036854775807 ∧ IL w a n (fs.getD j fc0).2)
theorem FL.below {w w' : World} {ao : Option Addr} {m : Nat} {fs : List Fc} (h : FL w ao m fs) (hb : Below w.heap.size w w') : FL w' ao m fs :=
  ⟨h.1, h.2.imp id fun ⟨b, off, e, h1, h2⟩ => ⟨b, off, e, Nat.lt_of_lt_of_le h1 hb.size, fun j hj => by
    obtain ⟨q1, q2, a, n, c, q3, q4, q5⟩ := h2 j hj
    exact ⟨q1, (hb.cell (p := ⟨b, off + j * 2, none⟩) h1).trans q2, a, n, c, (hb.cell (p := ⟨b, off + j * 2 + 1, none⟩) h1).trans q3, q4, q5.below hb⟩⟩⟩
theorem cell_lt {w : World} {a : Addr} {v : Value} (h : w.cell? a = some v) : a.block < w.heap.size := by
  unfold World.cell? at h
  cases e : w.heap[a.block]? with
  | none => rw [e] at h; cases h
  | some o => exact (Array.getElem?_eq_some_iff.1 e).1
theorem cI64 : Tryd.prog.cellsOf 2 = 1 := by kernel_rfl
theorem cStr : Tryd.prog.cellsOf 9 = 1 := by kernel_rfl
theorem cSI : Tryd.prog.cellsOf 65 = 1 := by kernel_rfl
theorem cSP : Tryd.prog.cellsOf 53 = 1 := by kernel_rfl
section
variable {H : Type} {enc : TypeId × Value → H} {W : World} {base : Nat} {sp : Nat → Bool}
set_option maxRecDepth 100000 in
theorem ints_open {fuel : Nat} {cs : List Value} {x : DataW H × List MemPlace} (h : DataW.trod enc Tryd.prog W base sp true fuel 65 cs = some x) : ∃ ao n cap zs, cs = [.slice ao n cap] ∧ n ≤ 9223372036854775807 ∧ IL W ao n zs := by
  rcases open_slice Tryd.underlying65 h with ⟨rfl, _⟩ | ⟨a, len, cap, m, n, D, Pl, rfl, _, hl, hm, hmm, _, hi⟩
  · exact ⟨none, 0, 0, [], rfl, by omega, rfl, Or.inl rfl⟩
  · rw [cI64] at hi
    have hlm : len ≤ m := by rw [hmm]; split <;> omega
    have hi2 : ∀ i, i < len → ∃ q : Int, W.cell? ((a.add (i * 1)).add 0) = some (.int .i64 q) := fun i him => by
      obtain ⟨cs', hc, ht⟩ := hi i (by omega)
      obtain ⟨_, hcl, hat⟩ := World.cells?_some hc
      obtain ⟨q, rfl, _, _⟩ := DataW.trod_int Tryd.underlying2 ht
      exact ⟨q, hat 0 (by omega)⟩
    obtain ⟨f, hfn⟩ := choose_lt hi2
    refine ⟨some a, len, cap, (List.range len).map f, rfl, by unfold maxLen at hm; omega, by simp, ?_⟩
    by_cases h0 : len = 0
    · exact Or.inl h0
    · right
      obtain ⟨b, off, spot⟩ := a
      have hspot : spot = none := by
        have := World.cell?_spot (hfn 0 (by omega))
        simpa [Addr.add] using this
      subst hspot
      refine ⟨b, off, rfl, ?_, fun j hj => ?_⟩
      · have := cell_lt (hfn 0 (by omega))
        simpa [Addr.add] using this
      · have h2 := hfn j hj
        rw [add_off, add_off] at h2
        have e : ((List.range len).map f).getD j 0 = f j := by simp [hj]
        rw [e]
        simpa using h2
set_option maxRecDepth 100000 in
theorem pts_open {fuel : Nat} {cs : List Value} {x : DataW H × List MemPlace} (h : DataW.trod enc Tryd.prog W base sp true fuel 53 cs = some x) : ∃ ao n cap zs, cs = [.slice ao n cap] ∧ n ≤ 9223372036854775807 ∧ LView W ao n zs := by
  rcases open_slice Tryd.underlying53 h with ⟨rfl, _⟩ | ⟨a, len, cap, m, n, D, Pl, rfl, _, hl, hm, hmm, _, hi⟩
  · exact ⟨none, 0, 0, [], rfl, by omega, rfl, Or.inl rfl⟩
  · rw [cLP] at hi
    have hlm : len ≤ m := by rw [hmm]; split <;> omega
    have hi2 : ∀ i, i < len → ∃ q : P2, W.cell? ((a.add (i * 2)).add 0) = some (.int .i64 q.1) ∧ W.cell? ((a.add (i * 2)).add 1) = some (.int .i64 q.2) := fun i him => by
      obtain ⟨cs', hc, ht⟩ := hi i (by omega)
      obtain ⟨_, hcl, hat⟩ := World.cells?_some hc
      obtain ⟨x, y, rfl⟩ := pt_cells ht
      exact ⟨(x, y), hat 0 (by omega), hat 1 (by omega)⟩
    obtain ⟨f, hfn⟩ := choose_lt hi2
    refine ⟨some a, len, cap, (List.range len).map f, rfl, by unfold maxLen at hm; omega, by simp, ?_⟩
    by_cases h0 : len = 0
    · exact Or.inl h0
    · right
      obtain ⟨b, off, spot⟩ := a
      have hspot : spot = none := by
        have := World.cell?_spot (hfn 0 (by omega)).1
        simpa [Addr.add] using this
      subst hspot
      refine ⟨b, off, rfl, ?_, fun j hj => ?_⟩
      · have := cell_lt (hfn 0 (by omega)).1
        simpa [Addr.add] using this
      · have h2 := hfn j hj
        rw [add_off, add_off, add_off] at h2
        have e : ((List.range len).map f).getD j (0, 0) = f j := by simp [hj]
        rw [e]
        exact h2
instance : Inhabited Fc := ⟨fc0⟩
end
/-- A drawing that came in, as a value and in memory. -/
structure DL (w : World) (v : Value) (D : Drw) : Prop where
  out : ∃ ao n c bo m d, v = .agg #[.int .i64 D.wd, .int .i64 D.hg, .slice ao n c, .slice bo m d] ∧ (Lit.int .i64 D.wd).wf = true ∧ (Lit.int .i64 D.hg).wf = true ∧ n ≤ 9223372036854775807 ∧ m ≤ 9223372036854775807 ∧ LView w ao n D.ps ∧ FL w bo m D.fs
theorem DL.below {w w' : World} {v : Value} {D : Drw} (h : DL w v D) (hb : Below w.heap.size w w') : DL w' v D := by
  obtain ⟨ao, n, c, bo, m, d, h1, h2, h3, h4, h5, h6, h7⟩ := h.out
  exact ⟨ao, n, c, bo, m, d, h1, h2, h3, h4, h5, h6.below hb, h7.below hb⟩
end Go.Proofs.YtmfchcaidfloaaaDoor
namespace Go.Proofs.YtmfchcaidfloaaaDoor
open Go.ChangeShapes Go.WideShapes Go.ChangeAt Go.RowKit
set_option linter.unusedVariables false
set_option linter.unusedSimpArgs false

def sumN (f : Nat → Nat) : Nat → Nat
  | 0 => 0
  | k + 1 => sumN f k + f k
theorem sumN_le (f : Nat → Nat) {k m : Nat} (h : k ≤ m) : sumN f k ≤ sumN f m := by
  induction m with
  | zero => have : k = 0 := by omega
            subst this; exact Nat.le_refl _
  | succ m ih =>
    by_cases hk : k ≤ m
    · exact Nat.le_trans (ih hk) (Nat.le_add_right _ _)
    · have : k = m + 1 := by omega
      subst this; exact Nat.le_refl _
def fcSz (f : Fc) : Nat := f.1.size + f.2.length
def fcAt (fs : List Fc) (j : Nat) : Nat := fcSz (fs.getD j fc0)
def fsSz (fs : List Fc) : Nat := fs.length + sumN (fcAt fs) fs.length
def dSz (D : Drw) : Nat := D.ps.length + fsSz D.fs
theorem szPt_any (ao : Option Addr) (n c : Nat) (l : Int) (w : World) (h0 : 0 ≤ l) (hl : l ≤ 1048576) (hm : n ≤ 9223372036854775807) :
    Calls Tryd.prog 21 #[.slice ao n c, .int .i64 l] w fun e w' => e = .returned (.int .i64 (lft l n)) ∧ w = w' := by
  by_cases hn : (n : Int) ≤ l
  · rw [lft_ok hn]; exact szI_ok ao n c l w h0 hl hn
  · rw [lft_no hn]; exact szI_no ao n c l w h0 hl (by omega) hm
end Go.Proofs.YtmfchcaidfloaaaDoor
namespace Go.Proofs.YtmfchcaidfloaaaDoor.Mk
open Go.Proofs.YtmfchcaidfloaaaDoor
open Go.ChangeShapes Go.WideShapes Go.ChangeAt Go.RowKit
set_option linter.unusedVariables false

def tb (l : List UInt8) : ByteArray := ⟨l.toArray⟩
theorem tb_size (l : List UInt8) : (tb l).size = l.length := by show l.toArray.size = _; simp
theorem tb_append (a b : List UInt8) : tb a ++ tb b = tb (a ++ b) := by unfold tb; rw [ByteArray.mk_append_mk]
theorem add_tb (a b : List UInt8) (w : World) (h : a.length + b.length ≤ 1048576) : (Op.stringOp .add (tb a) (tb b)).run Tryd.prog w = .ok (.string (tb (a ++ b))) w := by
  rw [run_string_add_sum w _ _ (by rw [tb_size, tb_size]; omega), tb_append]
theorem ret_tb {a b : List UInt8} (h : a = b) : Ending.returned (.string (tb a)) = .returned (.string (tb b)) := by rw [h]
def mtL (k : Nat) : List UInt8 := 109 :: Lib.decDigits k
def MtInv (k m : Nat) (O : List UInt8) : Prop := revD k = O.reverse ++ revD m ∧ O.length ≤ 20
theorem mt_step {k m : Nat} {O : List UInt8} (h : MtInv k m O) (hm : m ≠ 0) (hk : k < 10 ^ 20) : MtInv k (m / 10) (UInt8.ofNat (48 + m % 10) :: O) := by
  obtain ⟨h1, _⟩ := h
  have e : revD k = (UInt8.ofNat (48 + m % 10) :: O).reverse ++ revD (m / 10) := by rw [h1, revD_pos m hm]; simp
  refine ⟨e, ?_⟩
  have := congrArg List.length e
  have h2 := revD_len 20 k hk
  rw [List.length_append, List.length_reverse] at this
  omega
theorem mt_end {k : Nat} {O : List UInt8} (h : MtInv k 0 O) (hk : k ≠ 0) : O = Lib.decDigits k := by
  have := h.1
  rw [revD_zero, List.append_nil] at this
  rw [dec_rev k hk, this, List.reverse_reverse]
theorem conv1 (c : UInt8) (w : World) (t : TypeId) (n : Int) (hn : n = (c.toNat : Int)) : (convert 129 9 (.slice (some ⟨w.heap.size, 0, none⟩) 1 1)).run Tryd.prog (w.alloc (.cells #[.int .u8 n] t)) = .ok (.string (tb [c])) (w.alloc (.cells #[.int .u8 n] t)) := by
  subst hn
  refine run_convert_bytes_back (P := Tryd.prog) (w.alloc (.cells #[.int .u8 (c.toNat : Int)] t)) 129 9 5 ⟨w.heap.size, 0, none⟩ 1 [c] Tryd.underlying129 Tryd.underlying5 Tryd.underlying9 (fun j hj => ?_)
  match j, hj with
  | 0, _ => simp [Addr.add]

end Go.Proofs.YtmfchcaidfloaaaDoor.Mk
namespace Go.Proofs.YtmfchcaidfloaaaDoor
open Go.ChangeShapes Go.WideShapes Go.ChangeAt Go.RowKit
set_option linter.unusedVariables false
set_option linter.unusedSimpArgs false

theorem make_ints (n : Nat) (hn : n ≤ 1048576) (w : World) : (Instr.makeSlice 65 (.int .i64 (n : Int)) (.int .i64 (n : Int))).run Tryd.prog w = .ok (.slice (some ⟨w.heap.size, 0, none⟩) n n) (w.alloc (.cells (madeCells #[.int .i64 0] n) 2)) := by
  obtain ⟨i0, hi, hz0, hz1, hz2⟩ := info_int
  have h := run_make (P := Tryd.prog) w 65 2 i0 _ Tryd.underlying65 hi hz0 .i64 .i64 n n (by omega) (by omega) (by rw [hz2]; omega) (by omega)
  rw [hz1, show (Value.int .i64 0).cells = #[.int .i64 0] from rfl] at h
  simpa using h
/-- The cells of a row of integers, of which the first k are laid. -/
def inF (zs : List Int) (k j : Nat) : Value := if j < k then .int .i64 (zs.getD j 0) else .int .i64 0
theorem made_ints (w : World) (n : Nat) (zs : List Int) (t : TypeId) : (w.alloc (.cells (madeCells #[.int .i64 0] n) t)).rowIs w.heap.size t n (inF zs 0) := by
  have h := World.rowIs_alloc w (madeCells #[.int .i64 0] n) t (inF zs 0) (fun i hi => by
    rw [size_madeCells] at hi
    simp [madeCells, hi, inF, Nat.mod_one])
  rw [size_madeCells] at h
  exact h
theorem inF_step {zs : List Int} {k : Nat} {x : Int} (h : zs.getD k 0 = x) (j : Nat) : (if j = k then Value.int .i64 x else inF zs k j) = inF zs (k + 1) j := by
  unfold inF
  by_cases h2 : j = k
  · subst h2; rw [if_pos rfl, if_pos (by omega), h]
  · rw [if_neg h2]
    by_cases h3 : j < k
    · rw [if_pos h3, if_pos (by omega)]
    · rw [if_neg h3, if_neg (by omega)]
theorem own_copyI {w : World} {base g n : Nat} {zs : List Int} (hz : n = zs.length) (hn : n ≤ 1048576) (hb : base ≤ g) (h : w.rowIs g 2 n (inF zs n)) : w.ownsRow base 2 1 (.slice (some ⟨g, 0, none⟩) n n) n (flatI zs) := by
  obtain ⟨c, h1, h2, h3⟩ := h
  refine ⟨by rw [flatI_len, hz]; omega, Or.inr ⟨g, n, c, rfl, hb, h1, Nat.le_refl _, by unfold maxLen; omega, by omega, ?_⟩⟩
  apply List.ext_getElem?
  intro j
  by_cases hj : j < n
  · rw [List.getElem?_take_of_lt (by omega), Array.getElem?_toList, h3 j hj]
    unfold inF flatI
    rw [if_pos (by omega), List.getElem?_map, List.getElem?_eq_getElem (by omega)]
    simp [List.getD_eq_getElem?_getD, show j < zs.length by omega]
  · rw [List.getElem?_take, if_neg (by omega), List.getElem?_eq_none (by rw [flatI_len]; omega)]
def fcV (s : ByteArray) (g n : Nat) : Value := .agg #[.string s, .slice (some ⟨g, 0, none⟩) n n]
theorem cells2_at {w : World} {b : Nat} {x y : Value} {t : TypeId} {cur : Array Value} (h : w.heap[b]? = some (.cells cur t (0, 0))) (hc : cur = #[x, y]) : w.cell? ⟨b, 0, none⟩ = some x ∧ w.frozen? ⟨b, 0, none⟩ = false ∧ w.cell? ⟨b, 1, none⟩ = some y ∧ w.frozen? ⟨b, 1, none⟩ = false := by
  subst hc; simp [World.cell?, World.frozen?, h]
theorem grown_setC (w : World) (a : Addr) (u : Value) : w.grownBy (w.setCell a u) (some a.block) :=
  ⟨rfl, rfl, rfl, by simp, fun i _ hne => Below.heap_setCell _ _ _ _ (fun e => hne (by rw [e]))⟩
theorem own_lower {w : World} {b b' e size n : Nat} {v : Value} {xs : List Value} (h : w.ownsRow b e size v n xs) (hb : b' ≤ b) : w.ownsRow b' e size v n xs := by
  rcases h with ⟨h1, ⟨h2, h3⟩ | ⟨g, cap, cur, h2, h3, h4⟩⟩
  · exact ⟨h1, Or.inl ⟨h2, h3⟩⟩
  · exact ⟨h1, Or.inr ⟨g, cap, cur, h2, Nat.le_trans hb h3, h4⟩⟩
theorem keep_set {w : World} {base e size n : Nat} {v : Value} {xs : List Value} (h : w.ownsRow base e size v n xs) (a : Addr) (u : Value) (ha : a.block < base) : (w.setCell a u).ownsRow base e size v n xs :=
  h.kept (grown_setC w a u) (by
    cases hv : v.ownBlock with
    | none => exact Or.inl rfl
    | some k => exact Or.inr (by have := (h.lt k hv).1; simp; omega))
end Go.Proofs.YtmfchcaidfloaaaDoor
namespace Go.Proofs.YtmfchcaidfloaaaDoor
open Go.ChangeShapes Go.WideShapes Go.ChangeAt Go.RowKit
set_option linter.unusedVariables false
set_option linter.unusedSimpArgs false

def ringL (fs : List Fc) (j : Nat) : Nat := (fs.getD j fc0).2.length
/-- The cells of a row of faces, of which the first k are laid. -/
def faF (fs : List Fc) (rs : Nat → Nat) (k j : Nat) : Value := if j < k * 2 then (if j % 2 = 0 then .string (fs.getD (j / 2) fc0).1 else .slice (some ⟨rs (j / 2), 0, none⟩) (ringL fs (j / 2)) (ringL fs (j / 2))) else (if j % 2 = 0 then .string ⟨#[]⟩ else .slice none 0 0)
theorem made_fcs (w : World) (n : Nat) (fs : List Fc) (rs : Nat → Nat) (t : TypeId) : (w.alloc (.cells (madeCells #[.string ⟨#[]⟩, .slice none 0 0] (n * 2)) t)).rowIs w.heap.size t (n * 2) (faF fs rs 0) := by
  have h := World.rowIs_alloc w (madeCells #[.string ⟨#[]⟩, .slice none 0 0] (n * 2)) t (faF fs rs 0) (fun i hi => by
    rw [size_madeCells] at hi
    have h2 : i % 2 = 0 ∨ i % 2 = 1 := by omega
    rcases h2 with h2 | h2 <;> simp [madeCells, hi, faF, h2])
  rw [size_madeCells] at h
  exact h
theorem faF_step {fs : List Fc} {rs : Nat → Nat} {k g : Nat} {s : ByteArray} {n : Nat} (hs : (fs.getD k fc0).1 = s) (hn : ringL fs k = n) (j : Nat) :
    (if j = k * 2 + 1 then Value.slice (some ⟨g, 0, none⟩) n n else if j = k * 2 then Value.string s else faF fs rs k j) = faF fs (fun i => if i = k then g else rs i) (k + 1) j := by
  unfold faF
  by_cases h1 : j = k * 2 + 1
  · subst h1
    have a1 : (k * 2 + 1) / 2 = k := by omega
    have a2 : (k * 2 + 1) % 2 = 1 := by omega
    rw [if_pos rfl, if_pos (by omega), a1, a2, if_neg (by omega), hn]; simp
  · rw [if_neg h1]
    by_cases h2 : j = k * 2
    · subst h2
      have a1 : (k * 2) / 2 = k := by omega
      have a2 : (k * 2) % 2 = 0 := by omega
      rw [if_pos rfl, if_pos (by omega), a1, a2, hs]; rfl
    · rw [if_neg h2]
      by_cases h3 : j < k * 2
      · rw [if_pos h3, if_pos (show j < (k + 1) * 2 by omega)]; dsimp only; rw [if_neg (show ¬ j / 2 = k by omega)]
      · rw [if_neg h3, if_neg (show ¬ j < (k + 1) * 2 by omega)]
theorem fcs_le {fs : List Fc} (h : fsSz fs ≤ 1048576) {j : Nat} (hj : j < fs.length) : (fs.getD j fc0).1.size + ringL fs j ≤ 1048576 := by
  have h1 := sumN_le (fcAt fs) (show j + 1 ≤ fs.length by omega)
  have h2 : sumN (fcAt fs) (j + 1) = sumN (fcAt fs) j + ((fs.getD j fc0).1.size + ringL fs j) := rfl
  unfold fsSz at h
  omega
end Go.Proofs.YtmfchcaidfloaaaDoor
namespace Go.Proofs.YtmfchcaidfloaaaDoor
open Go.ChangeShapes Go.WideShapes Go.ChangeAt Go.RowKit
set_option linter.unusedVariables false
set_option linter.unusedSimpArgs false

/-- A slice of faces at the start of a block, or an empty one. -/
def FV (w : World) (ao : Option Addr) (m : Nat) (fs : List Fc) : Prop := m = fs.length ∧ (m = 0 ∨ ∃ b, ao = some ⟨b, 0, none⟩ ∧ b < w.heap.size ∧ ∀ j, j < m → (fs.getD j fc0).1.size ≤ 9223372036854775807 ∧ w.cell? ⟨b, j * 2, none⟩ = some (.string (fs.getD j fc0).1) ∧
  ∃ a c, w.cell? ⟨b, j * 2 + 1, none⟩ = some (.slice a (ringL fs j) c) ∧ IV w a (ringL fs j) (fs.getD j fc0).2)
theorem FV.below {w w' : World} {ao : Option Addr} {m : Nat} {fs : List Fc} (h : FV w ao m fs) (hb : Below w.heap.size w w') : FV w' ao m fs :=
  ⟨h.1, h.2.imp id fun ⟨b, e, h1, h2⟩ => ⟨b, e, Nat.lt_of_lt_of_le h1 hb.size, fun j hj => by
    obtain ⟨q1, q2, a, c, q3, q5⟩ := h2 j hj
    exact ⟨q1, (hb.cell (p := ⟨b, j * 2, none⟩) h1).trans q2, a, c, (hb.cell (p := ⟨b, j * 2 + 1, none⟩) h1).trans q3, q5.below hb⟩⟩⟩
theorem FV.at {w : World} {ao : Option Addr} {m : Nat} {fs : List Fc} (h : FV w ao m fs) {k : Nat} (hk : k < m) : ∃ b s r a n c, ao = some ⟨b, 0, none⟩ ∧ b < w.heap.size ∧ fs.getD k fc0 = (s, r) ∧ s.size ≤ 9223372036854775807 ∧ w.cell? ⟨b, k * 2, none⟩ = some (.string s) ∧ w.cell? ⟨b, k * 2 + 1, none⟩ = some (.slice a n c) ∧ n = ringL fs k ∧ IV w a n r := by
  obtain ⟨b, e, hb, hc⟩ := h.2.resolve_left (by omega)
  obtain ⟨q1, q2, a, c, q3, q5⟩ := hc k hk
  exact ⟨b, _, _, a, _, c, e, hb, rfl, q1, q2, q3, rfl, q5⟩
/-- A drawing, as a value and in memory. -/
structure DV (w : World) (v : Value) (D : Drw) : Prop where
  out : ∃ ao n c bo m d, v = .agg #[.int .i64 D.wd, .int .i64 D.hg, .slice ao n c, .slice bo m d] ∧ (Lit.int .i64 D.wd).wf = true ∧ (Lit.int .i64 D.hg).wf = true ∧ dSz D ≤ 1048576 ∧ PV w ao n D.ps ∧ FV w bo m D.fs
theorem DV.below {w w' : World} {v : Value} {D : Drw} (h : DV w v D) (hb : Below w.heap.size w w') : DV w' v D := by
  obtain ⟨ao, n, c, bo, m, d, h1, h2, h3, h4, h5, h6⟩ := h.out
  exact ⟨ao, n, c, bo, m, d, h1, h2, h3, h4, h5.below hb, h6.below hb⟩
theorem IV_of {w : World} {lo n r : Nat} {zs : List Int} (hn : n = zs.length) (h : w.ownsRow lo 2 1 (.slice (some ⟨r, 0, none⟩) n n) n (flatI zs)) : IV w (some ⟨r, 0, none⟩) n zs := own_pvI hn h
end Go.Proofs.YtmfchcaidfloaaaDoor
