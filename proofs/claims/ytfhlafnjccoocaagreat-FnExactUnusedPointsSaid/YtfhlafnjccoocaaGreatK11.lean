/- Several texts in one: Drw1, Drw2, MkText, Drw3, Drw4, Drw5. -/
import Derived.Test.YtfhlafnjccoocaaGreatK5
import Derived.Test.YtfhlafnjccoocaaGreatK8
import Derived.Test.YtfhlafnjccoocaaGreatLft
import Derived.Test.YtfhlafnjccoocaaGreatK1
import Derived.Test.YtfhlafnjccoocaaGreatProg
import Derived.Test.YtfhlafnjccoocaaGreatK15
import Derived.Laws.Concat
import Derived.Lib.Join
import Derived.LoopTactic
namespace Go.Proofs.YtfhlafnjccoocaaGreat
open Go.ChangeShapes Go.WideShapes Go.ChangeAt Go.RowKit Go.Joins Go.Deep
set_option linter.unusedVariables false

/-- A face: its name and its ring. -/
abbrev Fc := ByteArray × List Int
def fc0 : Fc := (ByteArray.empty, [])
structure Drw where
  wd : Int
  hg : Int
  ps : List P2
  fs : List Fc
/-- A slice of integers that came in. -/
def IL (w : World) (ao : Option Addr) (n : Nat) (zs : List Int) : Prop := n = zs.length ∧ (n = 0 ∨ ∃ b off, ao = some ⟨b, off, none⟩ ∧ b < w.heap.size ∧ ∀ j, j < n → w.cell? ⟨b, off + j, none⟩ = some (.int .i64 (zs.getD j 0)))
theorem IL.below {w w' : World} {ao : Option Addr} {n : Nat} {zs : List Int} (h : IL w ao n zs) (hb : Below w.heap.size w w') : IL w' ao n zs :=
  ⟨h.1, h.2.imp id fun ⟨b, off, e, h1, h2⟩ => ⟨b, off, e, Nat.lt_of_lt_of_le h1 hb.size, fun j hj => (hb.cell (p := ⟨b, off + j, none⟩) h1).trans (h2 j hj)⟩⟩
/-- A slice of faces that came in. -/
def FL (w : World) (ao : Option Addr) (m : Nat) (fs : List Fc) : Prop := m = fs.length ∧ (m = 0 ∨ ∃ b off, ao = some ⟨b, off, none⟩ ∧ b < w.heap.size ∧ ∀ j, j < m → (fs.getD j fc0).1.size ≤ 9223372036854775807 ∧ w.cell? ⟨b, off + j * 2, none⟩ = some (.string (fs.getD j fc0).1) ∧
  ∃ a n c, w.cell? ⟨b, off + j * 2 + 1, none⟩ = some (.slice a n c) ∧ n ≤ 9223372036854775807 ∧ IL w a n (fs.getD j fc0).2)
theorem FL.below {w w' : World} {ao : Option Addr} {m : Nat} {fs : List Fc} (h : FL w ao m fs) (hb : Below w.heap.size w w') : FL w' ao m fs :=
  ⟨h.1, h.2.imp id fun ⟨b, off, e, h1, h2⟩ => ⟨b, off, e, Nat.lt_of_lt_of_le h1 hb.size, fun j hj => by
    obtain ⟨q1, q2, a, n, c, q3, q4, q5⟩ := h2 j hj
    exact ⟨q1, (hb.cell (p := ⟨b, off + j * 2, none⟩) h1).trans q2, a, n, c, (hb.cell (p := ⟨b, off + j * 2 + 1, none⟩) h1).trans q3, q4, q5.below hb⟩⟩⟩
theorem cell_lt {w : World} {a : Addr} {v : Value} (h : w.cell? a = some v) : a.block < w.heap.size := by
  unfold World.cell? at h
  cases e : w.heap[a.block]? with
  | none => rw [e] at h; cases h
  | some o => exact (Array.getElem?_eq_some_iff.1 e).1
theorem cLF : Tryz.prog.cellsOf 60 = 2 := by kernel_rfl
theorem cLD : Tryz.prog.cellsOf 25 = 4 := by kernel_rfl
theorem cI64 : Tryz.prog.cellsOf 2 = 1 := by kernel_rfl
theorem cStr : Tryz.prog.cellsOf 9 = 1 := by kernel_rfl
theorem cSI : Tryz.prog.cellsOf 27 = 1 := by kernel_rfl
theorem cSP : Tryz.prog.cellsOf 22 = 1 := by kernel_rfl
theorem cSF : Tryz.prog.cellsOf 23 = 1 := by kernel_rfl
section
variable {H : Type} {enc : TypeId × Value → H} {W : World} {base : Nat} {sp : Nat → Bool}
set_option maxRecDepth 100000 in
theorem ints_open {fuel : Nat} {cs : List Value} {x : DataW H × List MemPlace} (h : DataW.trod enc Tryz.prog W base sp true fuel 27 cs = some x) : ∃ ao n cap zs, cs = [.slice ao n cap] ∧ n ≤ 9223372036854775807 ∧ IL W ao n zs := by
  rcases open_slice Tryz.underlying27 h with ⟨rfl, _⟩ | ⟨a, len, cap, m, n, D, Pl, rfl, _, hl, hm, hmm, _, hi⟩
  · exact ⟨none, 0, 0, [], rfl, by omega, rfl, Or.inl rfl⟩
  · rw [cI64] at hi
    have hlm : len ≤ m := by rw [hmm]; split <;> omega
    have hi2 : ∀ i, i < len → ∃ q : Int, W.cell? ((a.add (i * 1)).add 0) = some (.int .i64 q) := fun i him => by
      obtain ⟨cs', hc, ht⟩ := hi i (by omega)
      obtain ⟨_, hcl, hat⟩ := World.cells?_some hc
      obtain ⟨q, rfl, _, _⟩ := DataW.trod_int Tryz.underlying2 ht
      exact ⟨q, hat 0 (by omega)⟩
    obtain ⟨f, hfn⟩ := choose_lt hi2
    refine ⟨some a, len, cap, (List.range len).map f, rfl, by unfold maxLen at hm; omega, by simp, ?_⟩
    by_cases h0 : len = 0
    · exact Or.inl h0
    · right
      obtain ⟨b, off, spot⟩ := a
      have hspot : spot = none := by
        have := World.cell?_spot (hfn 0 (by omega))
        simpa [Addr.add] using this
      subst hspot
      refine ⟨b, off, rfl, ?_, fun j hj => ?_⟩
      · have := cell_lt (hfn 0 (by omega))
        simpa [Addr.add] using this
      · have h2 := hfn j hj
        rw [add_off, add_off] at h2
        have e : ((List.range len).map f).getD j 0 = f j := by simp [hj]
        rw [e]
        simpa using h2
set_option maxRecDepth 100000 in
theorem pts_open {fuel : Nat} {cs : List Value} {x : DataW H × List MemPlace} (h : DataW.trod enc Tryz.prog W base sp true fuel 22 cs = some x) : ∃ ao n cap zs, cs = [.slice ao n cap] ∧ n ≤ 9223372036854775807 ∧ LView W ao n zs := by
  rcases open_slice Tryz.underlying22 h with ⟨rfl, _⟩ | ⟨a, len, cap, m, n, D, Pl, rfl, _, hl, hm, hmm, _, hi⟩
  · exact ⟨none, 0, 0, [], rfl, by omega, rfl, Or.inl rfl⟩
  · rw [cLP] at hi
    have hlm : len ≤ m := by rw [hmm]; split <;> omega
    have hi2 : ∀ i, i < len → ∃ q : P2, W.cell? ((a.add (i * 2)).add 0) = some (.int .i64 q.1) ∧ W.cell? ((a.add (i * 2)).add 1) = some (.int .i64 q.2) := fun i him => by
      obtain ⟨cs', hc, ht⟩ := hi i (by omega)
      obtain ⟨_, hcl, hat⟩ := World.cells?_some hc
      obtain ⟨x, y, rfl⟩ := pt_cells ht
      exact ⟨(x, y), hat 0 (by omega), hat 1 (by omega)⟩
    obtain ⟨f, hfn⟩ := choose_lt hi2
    refine ⟨some a, len, cap, (List.range len).map f, rfl, by unfold maxLen at hm; omega, by simp, ?_⟩
    by_cases h0 : len = 0
    · exact Or.inl h0
    · right
      obtain ⟨b, off, spot⟩ := a
      have hspot : spot = none := by
        have := World.cell?_spot (hfn 0 (by omega)).1
        simpa [Addr.add] using this
      subst hspot
      refine ⟨b, off, rfl, ?_, fun j hj => ?_⟩
      · have := cell_lt (hfn 0 (by omega)).1
        simpa [Addr.add] using this
      · have h2 := hfn j hj
        rw [add_off, add_off, add_off] at h2
        have e : ((List.range len).map f).getD j (0, 0) = f j := by simp [hj]
        rw [e]
        exact h2
set_option maxRecDepth 100000 in
/-- The two cells of a face. -/
theorem face_cells {fuel : Nat} {cs : List Value} {x : DataW H × List MemPlace} (h : DataW.trod enc Tryz.prog W base sp true fuel 60 cs = some x) :
    ∃ (s : ByteArray) (a : Option Addr) (n c : Nat) (zs : List Int), cs = [.string s, .slice a n c] ∧ s.size ≤ 9223372036854775807 ∧ n ≤ 9223372036854775807 ∧ IL W a n zs := by
  obtain ⟨y0, y1, m, _, hl, h0, h1⟩ := trod_struct2 Tryz.underlying60 h
  rw [cLF] at hl
  match cs, hl with
  | [c0, c1], _ =>
    change DataW.trod enc Tryz.prog W base sp true m 9 (([c0, c1].drop 0).take (Tryz.prog.cellsOf 9)) = _ at h0
    change DataW.trod enc Tryz.prog W base sp true m 27 (([c0, c1].drop 1).take (Tryz.prog.cellsOf 27)) = _ at h1
    rw [cStr] at h0
    rw [cSI] at h1
    obtain ⟨s, e0, _, hs⟩ := DataW.trod_string Tryz.underlying9 h0
    obtain ⟨a, n, c, zs, e1, hn, hv⟩ := ints_open h1
    simp at e0 e1
    subst e0 e1
    exact ⟨s, a, n, c, zs, rfl, by unfold maxLen at hs; omega, hn, hv⟩
instance : Inhabited Fc := ⟨fc0⟩
set_option maxRecDepth 100000 in
theorem faces_open {fuel : Nat} {cs : List Value} {x : DataW H × List MemPlace} (h : DataW.trod enc Tryz.prog W base sp true fuel 23 cs = some x) : ∃ ao n cap fs, cs = [.slice ao n cap] ∧ n ≤ 9223372036854775807 ∧ FL W ao n fs := by
  rcases open_slice Tryz.underlying23 h with ⟨rfl, _⟩ | ⟨a, len, cap, m, n, D, Pl, rfl, _, hl, hm, hmm, _, hi⟩
  · exact ⟨none, 0, 0, [], rfl, by omega, rfl, Or.inl rfl⟩
  · rw [cLF] at hi
    have hlm : len ≤ m := by rw [hmm]; split <;> omega
    have hi2 : ∀ i, i < len → ∃ q : Fc, q.1.size ≤ 9223372036854775807 ∧ W.cell? ((a.add (i * 2)).add 0) = some (.string q.1) ∧ ∃ a' n' c', W.cell? ((a.add (i * 2)).add 1) = some (.slice a' n' c') ∧ n' ≤ 9223372036854775807 ∧ IL W a' n' q.2 := fun i him => by
      obtain ⟨cs', hc, ht⟩ := hi i (by omega)
      obtain ⟨_, hcl, hat⟩ := World.cells?_some hc
      obtain ⟨s, a', n', c', zs, rfl, h1, h2, h3⟩ := face_cells ht
      exact ⟨(s, zs), h1, hat 0 (by omega), a', n', c', hat 1 (by omega), h2, h3⟩
    obtain ⟨f, hfn⟩ := choose_lt hi2
    refine ⟨some a, len, cap, (List.range len).map f, rfl, by unfold maxLen at hm; omega, by simp, ?_⟩
    by_cases h0 : len = 0
    · exact Or.inl h0
    · right
      obtain ⟨b, off, spot⟩ := a
      have hspot : spot = none := by
        have := World.cell?_spot (hfn 0 (by omega)).2.1
        simpa [Addr.add] using this
      subst hspot
      refine ⟨b, off, rfl, ?_, fun j hj => ?_⟩
      · have := cell_lt (hfn 0 (by omega)).2.1
        simpa [Addr.add] using this
      · have h2 := hfn j hj
        rw [add_off, add_off, add_off] at h2
        have e : ((List.range len).map f).getD j fc0 = f j := by simp [hj]
        rw [e]
        exact h2
end
/-- A drawing that came in, as a value and in memory. -/
structure DL (w : World) (v : Value) (D : Drw) : Prop where
  out : ∃ ao n c bo m d, v = .agg #[.int .i64 D.wd, .int .i64 D.hg, .slice ao n c, .slice bo m d] ∧ (Lit.int .i64 D.wd).wf = true ∧ (Lit.int .i64 D.hg).wf = true ∧ n ≤ 9223372036854775807 ∧ m ≤ 9223372036854775807 ∧ LView w ao n D.ps ∧ FL w bo m D.fs
theorem DL.below {w w' : World} {v : Value} {D : Drw} (h : DL w v D) (hb : Below w.heap.size w w') : DL w' v D := by
  obtain ⟨ao, n, c, bo, m, d, h1, h2, h3, h4, h5, h6, h7⟩ := h.out
  exact ⟨ao, n, c, bo, m, d, h1, h2, h3, h4, h5, h6.below hb, h7.below hb⟩
set_option maxRecDepth 100000 in
theorem open_draw {H : Type} {enc : TypeId × Value → H} {W : World} {base : Nat} {v : Value} {d : DataW H} {p : List MemPlace} (hval : Value.okWide Tryz.prog W .any base 25 v)
    (h : DataW.Trod enc Tryz.prog W 0 (fun _ => true) true 25 v d p) : ∃ D : Drw, DL W v D := by
  obtain ⟨cs, rfl, hcs⟩ := okWide_struct Tryz.underlying25 hval
  obtain ⟨fuel, hf0⟩ := h
  obtain ⟨xs, m, _, hx, hl, hlen, hf⟩ := DataW.trod_struct Tryz.underlying25 hf0
  rw [cLD] at hcs
  obtain ⟨l, rfl⟩ : ∃ l : List Value, cs = l.toArray := ⟨cs.toList, by simp⟩
  match l, hcs with
  | [c0, c1, c2, c3], _ =>
    match xs, hlen with
    | [y0, y1, y2, y3], _ =>
      have h0 := hf 0 _ rfl
      have h1 := hf 1 _ rfl
      have h2 := hf 2 _ rfl
      have h3 := hf 3 _ rfl
      change DataW.trod enc Tryz.prog W 0 (fun _ => true) true m 2 (([c0, c1, c2, c3].drop 0).take (Tryz.prog.cellsOf 2)) = _ at h0
      change DataW.trod enc Tryz.prog W 0 (fun _ => true) true m 2 (([c0, c1, c2, c3].drop 1).take (Tryz.prog.cellsOf 2)) = _ at h1
      change DataW.trod enc Tryz.prog W 0 (fun _ => true) true m 22 (([c0, c1, c2, c3].drop 2).take (Tryz.prog.cellsOf 22)) = _ at h2
      change DataW.trod enc Tryz.prog W 0 (fun _ => true) true m 23 (([c0, c1, c2, c3].drop 3).take (Tryz.prog.cellsOf 23)) = _ at h3
      rw [cI64] at h0 h1
      rw [cSP] at h2
      rw [cSF] at h3
      obtain ⟨a, e0, _, wa⟩ := DataW.trod_int Tryz.underlying2 h0
      obtain ⟨b, e1, _, wb⟩ := DataW.trod_int Tryz.underlying2 h1
      obtain ⟨ao, n, c, zs, e2, hn, hv⟩ := pts_open h2
      obtain ⟨bo, m', d', fs, e3, hm, hw⟩ := faces_open h3
      simp at e0 e1 e2 e3
      subst e0 e1 e2 e3
      exact ⟨⟨a, b, zs, fs⟩, ao, n, c, bo, m', d', rfl, wa, wb, hn, hm, hv, hw⟩
end Go.Proofs.YtfhlafnjccoocaaGreat
namespace Go.Proofs.YtfhlafnjccoocaaGreat
open Go.ChangeShapes Go.WideShapes Go.ChangeAt Go.RowKit
set_option linter.unusedVariables false
set_option linter.unusedSimpArgs false

def sumN (f : Nat → Nat) : Nat → Nat
  | 0 => 0
  | k + 1 => sumN f k + f k
theorem sumN_le (f : Nat → Nat) {k m : Nat} (h : k ≤ m) : sumN f k ≤ sumN f m := by
  induction m with
  | zero => have : k = 0 := by omega
            subst this; exact Nat.le_refl _
  | succ m ih =>
    by_cases hk : k ≤ m
    · exact Nat.le_trans (ih hk) (Nat.le_add_right _ _)
    · have : k = m + 1 := by omega
      subst this; exact Nat.le_refl _
def fcSz (f : Fc) : Nat := f.1.size + f.2.length
def fcAt (fs : List Fc) (j : Nat) : Nat := fcSz (fs.getD j fc0)
def fsSz (fs : List Fc) : Nat := fs.length + sumN (fcAt fs) fs.length
def dSz (D : Drw) : Nat := D.ps.length + fsSz D.fs
theorem szPt_any (ao : Option Addr) (n c : Nat) (l : Int) (w : World) (h0 : 0 ≤ l) (hl : l ≤ 1048576) (hm : n ≤ 9223372036854775807) :
    Calls Tryz.prog 13 #[.slice ao n c, .int .i64 l] w fun e w' => e = .returned (.int .i64 (lft l n)) ∧ w = w' := by
  by_cases hn : (n : Int) ≤ l
  · rw [lft_ok hn]; exact szI_ok ao n c l w h0 hl hn
  · rw [lft_no hn]; exact szI_no ao n c l w h0 hl (by omega) hm
theorem szIn_any (ao : Option Addr) (n c : Nat) (l : Int) (w : World) (h0 : 0 ≤ l) (hl : l ≤ 1048576) (hm : n ≤ 9223372036854775807) :
    Calls Tryz.prog 43 #[.slice ao n c, .int .i64 l] w fun e w' => e = .returned (.int .i64 (lft l n)) ∧ w = w' := by
  have e1 : IntKind.i64.wrap (l - (n : Int)) = l - (n : Int) := IntWalk.i64_in _ (by omega)
  by_cases hn : (n : Int) ≤ l
  · rw [lft_ok hn]
    have e2 : decide (l - (n : Int) < 0) = false := by simp; omega
    go_enter Tryz.func43, Tryz.ntmps43
    go_wp2
    go_ret
    exact ⟨rfl, rfl⟩
  · rw [lft_no hn]
    have e2 : decide (l - (n : Int) < 0) = true := by simp; omega
    go_enter Tryz.func43, Tryz.ntmps43
    go_wp2
    go_ret
    exact ⟨rfl, rfl⟩
theorem szFc_any (s : ByteArray) (a : Option Addr) (n c : Nat) (l : Int) (w : World) (h0 : 0 ≤ l) (hl : l ≤ 1048576) (hs : s.size ≤ 9223372036854775807) (hm : n ≤ 9223372036854775807) :
    Calls Tryz.prog 26 #[.agg #[.string s, .slice a n c], .int .i64 l] w fun e w' => e = .returned (.int .i64 (lft l (s.size + n))) ∧ Below w.heap.size w w' := by
  have e1 : IntKind.i64.wrap (l - (s.size : Int)) = l - (s.size : Int) := IntWalk.i64_in _ (by omega)
  by_cases hn : (s.size : Int) ≤ l
  · have e2 : decide (l - (s.size : Int) < 0) = false := by simp; omega
    by_cases hk : (n : Int) ≤ l - s.size
    · have HR := Lib.hid (show lft l (s.size + n) = l - s.size - n by rw [lft_ok (by omega)]; omega)
      have HQ := Lib.hid (lft_ok hk)
      have e3 : decide (l - (s.size : Int) - (n : Int) < 0) = false := by simp; omega
      go_enter Tryz.func26, Tryz.ntmps26
      go_wp2_with fail
      refine (szIn_any a n c _ _ (by omega) (by omega) hm).mono ?_
      rintro e w1 ⟨rfl, rfl⟩
      rw [HQ.out]
      go_wp2
      go_ret
      exact ⟨ret_int HR.out.symm, one_alloc _⟩
    · have HR := Lib.hid (show lft l (s.size + n) = -1 by rw [lft_no (by omega)])
      have HQ := Lib.hid (lft_no hk)
      go_enter Tryz.func26, Tryz.ntmps26
      go_wp2_with fail
      refine (szIn_any a n c _ _ (by omega) (by omega) hm).mono ?_
      rintro e w1 ⟨rfl, rfl⟩
      rw [HQ.out]
      go_wp2
      go_ret
      exact ⟨ret_int HR.out.symm, one_alloc _⟩
  · have HR := Lib.hid (show lft l (s.size + n) = -1 by rw [lft_no (by omega)])
    have e2 : decide (l - (s.size : Int) < 0) = true := by simp; omega
    go_enter Tryz.func26, Tryz.ntmps26
    go_wp2
    go_ret
    exact ⟨ret_int HR.out.symm, one_alloc _⟩
set_option maxRecDepth 100000 in
set_option maxHeartbeats 1000000 in
theorem szFs_any (ao : Option Addr) (m c : Nat) (fs : List Fc) (l : Int) (w : World) (h0 : 0 ≤ l) (hl : l ≤ 1048576) (hm : m ≤ 9223372036854775807) (hv : FL w ao m fs) :
    Calls Tryz.prog 14 #[.slice ao m c, .int .i64 l] w fun e w' => e = .returned (.int .i64 (lft l (fsSz fs))) ∧ Below w.heap.size w w' := by
  have HV := Lib.hid hv
  have hmz := hv.1
  have e1 : IntKind.i64.wrap (l - (m : Int)) = l - (m : Int) := IntWalk.i64_in _ (by omega)
  by_cases hn : (m : Int) ≤ l
  · have e2 : decide (l - (m : Int) < 0) = false := by simp; omega
    have HF := Lib.hid (show fsSz fs = m + sumN (fcAt fs) m by unfold fsSz; rw [← hmz])
    have HL := Lib.hid (fun k (h : k ≤ m) => sumN_le (fcAt fs) h)
    generalize hg : fcAt fs = g at *
    have HG := Lib.hid hg
    clear hv hg hmz
    go_enter Tryz.func14, Tryz.ntmps14
    go_wp2
    go_loopw [5, 1] (fun iv lv wr => ∃ k : Nat, k ≤ m ∧ iv = .int .i64 k ∧ Hid ((m : Int) + sumN g k ≤ l) ∧ lv = .int .i64 (l - m - sumN g k) ∧ Hid (Below w.heap.size w wr)) (fun i _ _ => m - (intOf i).toNat)
    case atStart => exact ⟨0, by omega, rfl, Lib.hid (by simp [sumN]; omega), by simp [sumN], Lib.hid (Below.refl _ _)⟩
    case round =>
      obtain ⟨k, hk, rfl, hs, rfl, hw⟩ := hrel
      have hs' := hs.out
      by_cases hlt : k < m
      · obtain ⟨b, off, rfl, hbw, hcs⟩ := (HV.out.below hw.out).2.resolve_left (by omega)
        obtain ⟨q1, c0, a, n, c', c1, q4, q5⟩ := hcs k hlt
        have HS := Lib.hid (show sumN g (k + 1) = sumN g k + ((fs.getD k fc0).1.size + n) by
          show sumN g k + g k = _
          rw [← HG.out, q5.1]; rfl)
        clear hcs q5
        generalize (fs.getD k fc0).1 = s at *
        generalize hsk : sumN g k = sk at *
        by_cases hq : ((s.size + n : Nat) : Int) ≤ l - m - sk
        · have HQ := Lib.hid (lft_ok hq)
          have e3 : decide (l - (m : Int) - sk - ((s.size + n : Nat) : Int) < 0) = false := by simp; omega
          go_wp2_with fail
          refine (szFc_any s a n c' _ _ (by omega) (by omega) q1 q4).mono ?_
          rintro e w1 ⟨rfl, g1⟩
          have HB := Lib.hid (bseq hw.out g1)
          clear g1
          rw [HQ.out]
          go_wp2
          go_roundw
          case rel => exact ⟨k + 1, by omega, by go_num, Lib.hid (by rw [HS.out]; omega), by rw [HS.out]; exact val_int (by omega), HB⟩
          case measure => simp [intOf]; omega
        · have HQ := Lib.hid (lft_no hq)
          have HR := Lib.hid (show lft l (fsSz fs) = -1 by
            refine lft_no ?_
            have h1 := HL.out (k + 1) (by omega)
            rw [HF.out]; rw [HS.out] at h1; omega)
          go_wp2_with fail
          refine (szFc_any s a n c' _ _ (by omega) (by omega) q1 q4).mono ?_
          rintro e w1 ⟨rfl, g1⟩
          have HB := Lib.hid (bseq hw.out g1)
          clear g1
          rw [HQ.out]
          go_wp2
          go_ret
          exact ⟨ret_int HR.out.symm, HB.out⟩
      · obtain rfl : k = m := by omega
        have HR := Lib.hid (show lft l (fsSz fs) = l - k - sumN g k by rw [lft_ok (by rw [HF.out]; omega), HF.out]; omega)
        go_wp2
        go_ret
        exact ⟨ret_int HR.out.symm, hw.out⟩
  · have HR := Lib.hid (show lft l (fsSz fs) = -1 by refine lft_no ?_; unfold fsSz; omega)
    have e2 : decide (l - (m : Int) < 0) = true := by simp; omega
    clear hv
    go_enter Tryz.func14, Tryz.ntmps14
    go_wp2
    go_ret
    exact ⟨ret_int HR.out.symm, Below.refl _ _⟩
set_option maxRecDepth 100000 in
set_option maxHeartbeats 1000000 in
theorem szDr_any (v : Value) (D : Drw) (l : Int) (w : World) (h0 : 0 ≤ l) (hl : l ≤ 1048576) (hv : DL w v D) :
    Calls Tryz.prog 4 #[v, .int .i64 l] w fun e w' => e = .returned (.int .i64 (lft l (dSz D))) ∧ Below w.heap.size w w' := by
  obtain ⟨ao, n, c, bo, m, d, rfl, wa, wb, hn, hm, hp, hf⟩ := hv.out
  have HF := Lib.hid hf
  have HDS := Lib.hid (show dSz D = n + fsSz D.fs by unfold dSz; rw [hp.1])
  clear hv hp hf wa wb
  by_cases hq : (n : Int) ≤ l
  · have HQ := Lib.hid (lft_ok hq)
    by_cases hr : ((fsSz D.fs : Nat) : Int) ≤ l - n
    · have HQ2 := Lib.hid (lft_ok hr)
      have HR := Lib.hid (show lft l (dSz D) = l - n - fsSz D.fs by rw [lft_ok (by rw [HDS.out]; omega)]; rw [HDS.out]; omega)
      have e3 : decide (l - (n : Int) < 0) = false := by simp; omega
      have e4 : decide (l - (n : Int) - (fsSz D.fs : Int) < 0) = false := by simp; omega
      go_enter Tryz.func4, Tryz.ntmps4
      go_wp2_with fail
      refine (szPt_any ao n c _ _ h0 hl hn).mono ?_
      rintro e w1 ⟨rfl, rfl⟩
      rw [HQ.out]
      go_wp2_with fail
      refine (szFs_any bo m d D.fs _ _ (by omega) (by omega) hm (HF.out.below (one_alloc _))).mono ?_
      rintro e w2 ⟨rfl, g2⟩
      have HB := Lib.hid (bseq (one_alloc _) g2)
      clear g2
      rw [HQ2.out]
      go_wp2
      go_ret
      exact ⟨ret_int HR.out.symm, HB.out⟩
    · have HQ2 := Lib.hid (lft_no hr)
      have HR := Lib.hid (show lft l (dSz D) = -1 by refine lft_no ?_; rw [HDS.out]; omega)
      have e3 : decide (l - (n : Int) < 0) = false := by simp; omega
      go_enter Tryz.func4, Tryz.ntmps4
      go_wp2_with fail
      refine (szPt_any ao n c _ _ h0 hl hn).mono ?_
      rintro e w1 ⟨rfl, rfl⟩
      rw [HQ.out]
      go_wp2_with fail
      refine (szFs_any bo m d D.fs _ _ (by omega) (by omega) hm (HF.out.below (one_alloc _))).mono ?_
      rintro e w2 ⟨rfl, g2⟩
      have HB := Lib.hid (bseq (one_alloc _) g2)
      clear g2
      rw [HQ2.out]
      go_wp2
      go_ret
      exact ⟨ret_int HR.out.symm, HB.out⟩
  · have HQ := Lib.hid (lft_no hq)
    have HR := Lib.hid (show lft l (dSz D) = -1 by refine lft_no ?_; rw [HDS.out]; omega)
    go_enter Tryz.func4, Tryz.ntmps4
    go_wp2_with fail
    refine (szPt_any ao n c _ _ h0 hl hn).mono ?_
    rintro e w1 ⟨rfl, rfl⟩
    rw [HQ.out]
    go_wp2
    go_ret
    exact ⟨ret_int HR.out.symm, one_alloc _⟩
end Go.Proofs.YtfhlafnjccoocaaGreat
namespace Go.Proofs.YtfhlafnjccoocaaGreat.Mk
open Go.Proofs.YtfhlafnjccoocaaGreat
open Go.ChangeShapes Go.WideShapes Go.ChangeAt Go.RowKit
set_option linter.unusedVariables false

def tb (l : List UInt8) : ByteArray := ⟨l.toArray⟩
theorem tb_size (l : List UInt8) : (tb l).size = l.length := by show l.toArray.size = _; simp
theorem tb_append (a b : List UInt8) : tb a ++ tb b = tb (a ++ b) := by unfold tb; rw [ByteArray.mk_append_mk]
theorem add_tb (a b : List UInt8) (w : World) (h : a.length + b.length ≤ 1048576) : (Op.stringOp .add (tb a) (tb b)).run Tryz.prog w = .ok (.string (tb (a ++ b))) w := by
  rw [run_string_add_sum w _ _ (by rw [tb_size, tb_size]; omega), tb_append]
theorem ret_tb {a b : List UInt8} (h : a = b) : Ending.returned (.string (tb a)) = .returned (.string (tb b)) := by rw [h]
def mtL (k : Nat) : List UInt8 := 109 :: Lib.decDigits k
def MtInv (k m : Nat) (O : List UInt8) : Prop := revD k = O.reverse ++ revD m ∧ O.length ≤ 20
theorem mt_step {k m : Nat} {O : List UInt8} (h : MtInv k m O) (hm : m ≠ 0) (hk : k < 10 ^ 20) : MtInv k (m / 10) (UInt8.ofNat (48 + m % 10) :: O) := by
  obtain ⟨h1, _⟩ := h
  have e : revD k = (UInt8.ofNat (48 + m % 10) :: O).reverse ++ revD (m / 10) := by rw [h1, revD_pos m hm]; simp
  refine ⟨e, ?_⟩
  have := congrArg List.length e
  have h2 := revD_len 20 k hk
  rw [List.length_append, List.length_reverse] at this
  omega
theorem mt_end {k : Nat} {O : List UInt8} (h : MtInv k 0 O) (hk : k ≠ 0) : O = Lib.decDigits k := by
  have := h.1
  rw [revD_zero, List.append_nil] at this
  rw [dec_rev k hk, this, List.reverse_reverse]
theorem conv1 (c : UInt8) (w : World) (t : TypeId) (n : Int) (hn : n = (c.toNat : Int)) : (convert 90 9 (.slice (some ⟨w.heap.size, 0, none⟩) 1 1)).run Tryz.prog (w.alloc (.cells #[.int .u8 n] t)) = .ok (.string (tb [c])) (w.alloc (.cells #[.int .u8 n] t)) := by
  subst hn
  refine run_convert_bytes_back (P := Tryz.prog) (w.alloc (.cells #[.int .u8 (c.toNat : Int)] t)) 90 9 5 ⟨w.heap.size, 0, none⟩ 1 [c] Tryz.underlying90 Tryz.underlying5 Tryz.underlying9 (fun j hj => ?_)
  match j, hj with
  | 0, _ => simp [Addr.add]

set_option maxRecDepth 100000 in
set_option maxHeartbeats 1000000 in
theorem markText_any (k : Nat) (w : World) (hk : 1 ≤ k) (hk2 : k ≤ 1000000000) :
    Calls Tryz.prog 42 #[.int .i64 k] w fun e w' => e = .returned (.string (tb (mtL k))) ∧ Below w.heap.size w w' := by
  go_enter Tryz.func42, Tryz.ntmps42
  go_wp2
  go_loopw [0, 3] (fun n o wr => ∃ (m : Nat) (O : List UInt8), m ≤ k ∧ n = .int .i64 m ∧ o = .string (tb O) ∧ Hid (MtInv k m O) ∧ Hid (Below w.heap.size w wr)) (fun n _ _ => (intOf n).toNat)
  case atStart => exact ⟨k, [], by omega, rfl, rfl, Lib.hid ⟨by simp, by simp⟩, Lib.hid (Below.refl _ _)⟩
  case round =>
    obtain ⟨m, O, hm, rfl, rfl, hI, hB⟩ := hrel
    have hOl := hI.out.2
    by_cases hp : 0 < m
    · have HN := Lib.hid (mt_step hI.out (by omega) (by omega))
      have hcv := conv1 (UInt8.ofNat (48 + m % 10)) wr 5 (48 + (m : Int) % 10) (by rw [UInt8.toNat_ofNat']; omega)
      generalize UInt8.ofNat (48 + m % 10) = c at *
      have had := fun w => add_tb [c] O w (by simp; omega)
      have hBs := hB.out.size
      go_wp2
      go_roundw
      case rel => exact ⟨m / 10, c :: O, by omega, by go_num, rfl, HN, Lib.hid (hB.out.alloc hBs _)⟩
      case measure => simp [intOf]; omega
    · have hm0 : m = 0 := by omega
      subst hm0
      have HE := Lib.hid (mt_end hI.out (by omega))
      have had : ∀ w, (Op.stringOp .add ⟨#[109]⟩ (tb O)).run Tryz.prog w = .ok (.string (tb (109 :: O))) w := fun w => add_tb [109] O w (by simp; omega)
      go_wp2
      go_ret
      exact ⟨ret_tb (by rw [HE.out]; rfl), hB.out⟩
end Go.Proofs.YtfhlafnjccoocaaGreat.Mk
namespace Go.Proofs.YtfhlafnjccoocaaGreat
open Go.ChangeShapes Go.WideShapes Go.ChangeAt Go.RowKit
set_option linter.unusedVariables false
set_option linter.unusedSimpArgs false

theorem make_ints (n : Nat) (hn : n ≤ 1048576) (w : World) : (Instr.makeSlice 27 (.int .i64 (n : Int)) (.int .i64 (n : Int))).run Tryz.prog w = .ok (.slice (some ⟨w.heap.size, 0, none⟩) n n) (w.alloc (.cells (madeCells #[.int .i64 0] n) 2)) := by
  obtain ⟨i0, hi, hz0, hz1, hz2⟩ := info_int
  have h := run_make (P := Tryz.prog) w 27 2 i0 _ Tryz.underlying27 hi hz0 .i64 .i64 n n (by omega) (by omega) (by rw [hz2]; omega) (by omega)
  rw [hz1, show (Value.int .i64 0).cells = #[.int .i64 0] from rfl] at h
  simpa using h
/-- The cells of a row of integers, of which the first k are laid. -/
def inF (zs : List Int) (k j : Nat) : Value := if j < k then .int .i64 (zs.getD j 0) else .int .i64 0
theorem made_ints (w : World) (n : Nat) (zs : List Int) (t : TypeId) : (w.alloc (.cells (madeCells #[.int .i64 0] n) t)).rowIs w.heap.size t n (inF zs 0) := by
  have h := World.rowIs_alloc w (madeCells #[.int .i64 0] n) t (inF zs 0) (fun i hi => by
    rw [size_madeCells] at hi
    simp [madeCells, hi, inF, Nat.mod_one])
  rw [size_madeCells] at h
  exact h
theorem inF_step {zs : List Int} {k : Nat} {x : Int} (h : zs.getD k 0 = x) (j : Nat) : (if j = k then Value.int .i64 x else inF zs k j) = inF zs (k + 1) j := by
  unfold inF
  by_cases h2 : j = k
  · subst h2; rw [if_pos rfl, if_pos (by omega), h]
  · rw [if_neg h2]
    by_cases h3 : j < k
    · rw [if_pos h3, if_pos (by omega)]
    · rw [if_neg h3, if_neg (by omega)]
theorem own_copyI {w : World} {base g n : Nat} {zs : List Int} (hz : n = zs.length) (hn : n ≤ 1048576) (hb : base ≤ g) (h : w.rowIs g 2 n (inF zs n)) : w.ownsRow base 2 1 (.slice (some ⟨g, 0, none⟩) n n) n (flatI zs) := by
  obtain ⟨c, h1, h2, h3⟩ := h
  refine ⟨by rw [flatI_len, hz]; omega, Or.inr ⟨g, n, c, rfl, hb, h1, Nat.le_refl _, by unfold maxLen; omega, by omega, ?_⟩⟩
  apply List.ext_getElem?
  intro j
  by_cases hj : j < n
  · rw [List.getElem?_take_of_lt (by omega), Array.getElem?_toList, h3 j hj]
    unfold inF flatI
    rw [if_pos (by omega), List.getElem?_map, List.getElem?_eq_getElem (by omega)]
    simp [List.getD_eq_getElem?_getD, show j < zs.length by omega]
  · rw [List.getElem?_take, if_neg (by omega), List.getElem?_eq_none (by rw [flatI_len]; omega)]
set_option maxRecDepth 100000 in
set_option maxHeartbeats 1000000 in
theorem toI_own (ao : Option Addr) (n c : Nat) (zs : List Int) (w : World) (hn : n ≤ 1048576) (hv : IL w ao n zs) :
    Calls Tryz.prog 50 #[.slice ao n c] w fun e w' => ∃ g, e = .returned (.slice (some ⟨g, 0, none⟩) n n) ∧ w.heap.size ≤ g ∧ w'.ownsRow w.heap.size 2 1 (.slice (some ⟨g, 0, none⟩) n n) n (flatI zs) ∧ Below w.heap.size w w' := by
  have HV := Lib.hid hv
  have HZ := Lib.hid hv.1
  clear hv
  have hmk := make_ints n hn
  go_enter Tryz.func50, Tryz.ntmps50
  go_wp2
  clear hmk
  go_loopw [4] (fun iv wr => ∃ k : Nat, k ≤ n ∧ iv = .int .i64 k ∧ Hid (wr.rowIs w.heap.size 2 n (inF zs k)) ∧ Hid (Below w.heap.size w wr)) (fun i _ => n - (intOf i).toNat)
  case atStart => exact ⟨0, by omega, rfl, Lib.hid (made_ints w n zs _), Lib.hid (one_alloc _)⟩
  case round =>
    obtain ⟨k, hk, rfl, hr, hb⟩ := hrel
    by_cases hlt : k < n
    · obtain ⟨b, off, rfl, hbw, hcs⟩ := HV.out.2.resolve_left (by omega)
      have c0 := (hb.out.cell (p := ⟨b, off + k, none⟩) hbw).trans (hcs k hlt)
      obtain ⟨x, e⟩ : ∃ x, zs.getD k 0 = x := ⟨_, rfl⟩
      rw [e] at c0
      have HE := Lib.hid (inF_step e)
      have hgw := hr.out.lt
      have d0 := hr.out.cell (i := k) (by omega)
      rw [inF, if_neg (by omega)] at d0
      have f0 := hr.out.frozen k
      have hbr : b < wr.heap.size := Nat.lt_of_lt_of_le hbw hb.out.size
      clear hcs e
      go_wp2
      go_roundw
      case rel => exact ⟨k + 1, by omega, by go_num, Lib.hid ((hr.out.set k _).congr (fun j _ => HE.out j)), Lib.hid (hb.out.setCell (Nat.le_refl _) _)⟩
      case measure => simp [intOf]; omega
    · obtain rfl : k = n := by omega
      go_wp2
      go_ret
      exact ⟨_, rfl, Nat.le_refl _, own_copyI HZ.out hn (Nat.le_refl _) hr.out, hb.out⟩
def fcV (s : ByteArray) (g n : Nat) : Value := .agg #[.string s, .slice (some ⟨g, 0, none⟩) n n]
theorem cells2_at {w : World} {b : Nat} {x y : Value} {t : TypeId} {cur : Array Value} (h : w.heap[b]? = some (.cells cur t (0, 0))) (hc : cur = #[x, y]) : w.cell? ⟨b, 0, none⟩ = some x ∧ w.frozen? ⟨b, 0, none⟩ = false ∧ w.cell? ⟨b, 1, none⟩ = some y ∧ w.frozen? ⟨b, 1, none⟩ = false := by
  subst hc; simp [World.cell?, World.frozen?, h]
theorem grown_setC (w : World) (a : Addr) (u : Value) : w.grownBy (w.setCell a u) (some a.block) :=
  ⟨rfl, rfl, rfl, by simp, fun i _ hne => Below.heap_setCell _ _ _ _ (fun e => hne (by rw [e]))⟩
theorem own_lower {w : World} {b b' e size n : Nat} {v : Value} {xs : List Value} (h : w.ownsRow b e size v n xs) (hb : b' ≤ b) : w.ownsRow b' e size v n xs := by
  rcases h with ⟨h1, ⟨h2, h3⟩ | ⟨g, cap, cur, h2, h3, h4⟩⟩
  · exact ⟨h1, Or.inl ⟨h2, h3⟩⟩
  · exact ⟨h1, Or.inr ⟨g, cap, cur, h2, Nat.le_trans hb h3, h4⟩⟩
theorem keep_set {w : World} {base e size n : Nat} {v : Value} {xs : List Value} (h : w.ownsRow base e size v n xs) (a : Addr) (u : Value) (ha : a.block < base) : (w.setCell a u).ownsRow base e size v n xs :=
  h.kept (grown_setC w a u) (by
    cases hv : v.ownBlock with
    | none => exact Or.inl rfl
    | some k => exact Or.inr (by have := (h.lt k hv).1; simp; omega))
set_option maxRecDepth 100000 in
set_option maxHeartbeats 1000000 in
theorem toFc_own (s : ByteArray) (ao : Option Addr) (n c : Nat) (zs : List Int) (w : World) (hn : n ≤ 1048576) (hv : IL w ao n zs) :
    Calls Tryz.prog 33 #[.agg #[.string s, .slice ao n c]] w fun e w' => ∃ g, e = .returned (fcV s g n) ∧ w'.ownsRow w.heap.size 2 1 (.slice (some ⟨g, 0, none⟩) n n) n (flatI zs) ∧ Below w.heap.size w w' := by
  have HV := Lib.hid hv
  clear hv
  have HA := Lib.hid (three_allocs (w := w) (.cells #[.string s, .slice ao n c] 60) (.cells #[.string ⟨#[]⟩, .slice none 0 0] 46) (.cells #[.string s, .slice none 0 0] 46))
  go_enter Tryz.func33, Tryz.ntmps33
  go_wp2_with fail
  refine (toI_own ao n c zs _ hn (HV.out.below ?_)).mono ?_
  · exact three_allocs _ _ _
  rintro e w1 ⟨g, rfl, hg, ho, hb⟩
  have HB := Lib.hid hb
  have HO := Lib.hid ho
  have a0 : w1.cell? ⟨w.heap.size, 1, none⟩ = some (.slice ao n c) := by rw [(bcell hb).1 _ _ (by simp <;> omega)]; go_simp
  have c0 : w1.cell? ⟨w.heap.size + 1 + 1, 0, none⟩ = some (.string s) := by rw [(bcell hb).1 _ _ (by simp)]; go_simp
  have c1 : w1.cell? ⟨w.heap.size + 1 + 1, 1, none⟩ = some (.slice none 0 0) := by rw [(bcell hb).1 _ _ (by simp)]; go_simp
  have f1 : w1.frozen? ⟨w.heap.size + 1 + 1, 1, none⟩ = false := by rw [(bcell hb).2 _ _ (by simp)]; go_simp
  have d0 : w1.cell? ⟨w.heap.size + 1, 0, none⟩ = some (.string ⟨#[]⟩) := by rw [(bcell hb).1 _ _ (by simp)]; go_simp
  have d1 : w1.cell? ⟨w.heap.size + 1, 1, none⟩ = some (.slice none 0 0) := by rw [(bcell hb).1 _ _ (by simp)]; go_simp
  have f2 : w1.frozen? ⟨w.heap.size + 1, 0, none⟩ = false := by rw [(bcell hb).2 _ _ (by simp)]; go_simp
  have f3 : w1.frozen? ⟨w.heap.size + 1, 1, none⟩ = false := by rw [(bcell hb).2 _ _ (by simp)]; go_simp
  have hz : w.heap.size + 1 + 1 < w1.heap.size := by have := hb.size; simp at this; omega
  clear hb ho
  go_wp2
  have hb := HB.out
  have e1 := keep_set HO.out ⟨w.heap.size + 1 + 1, 1, none⟩ (.slice (some ⟨g, 0, none⟩) n n) (by simp)
  have e2 := keep_set e1 ⟨w.heap.size + 1, 0, none⟩ (.string s) (by simp <;> omega)
  have e3 := keep_set e2 ⟨w.heap.size + 1, 1, none⟩ (.slice (some ⟨g, 0, none⟩) n n) (by simp <;> omega)
  have b0 := HA.out.trans (hb.mono (by simp <;> omega))
  have b1 := b0.setCell (p := ⟨w.heap.size + 1 + 1, 1, none⟩) (by show w.heap.size ≤ w.heap.size + 1 + 1; omega) (.slice (some ⟨g, 0, none⟩) n n)
  have b2 := b1.setCell (p := ⟨w.heap.size + 1, 0, none⟩) (by show w.heap.size ≤ w.heap.size + 1; omega) (.string s)
  have b3 := b2.setCell (p := ⟨w.heap.size + 1, 1, none⟩) (by show w.heap.size ≤ w.heap.size + 1; omega) (.slice (some ⟨g, 0, none⟩) n n)
  exact bodyPost_ret (v := fcV s g n) (by simp [results, Tryz.results33, go_sem, fcV, d0, d1, c0, c1, hz]) rfl ⟨g, rfl, own_lower e3 (by simp <;> omega), b3⟩
end Go.Proofs.YtfhlafnjccoocaaGreat
namespace Go.Proofs.YtfhlafnjccoocaaGreat
open Go.ChangeShapes Go.WideShapes Go.ChangeAt Go.RowKit
set_option linter.unusedVariables false
set_option linter.unusedSimpArgs false

theorem info_fc : (Tryz.prog.info? 46).map (fun i => (i.zero, i.size, i.bytes)) = some (some (.agg #[.string ⟨#[]⟩, .slice none 0 0]), 2, 40) := by kernel_rfl
theorem make_fcs (n : Nat) (hn : n ≤ 1048576) (w : World) : (Instr.makeSlice 31 (.int .i64 (n : Int)) (.int .i64 (n : Int))).run Tryz.prog w = .ok (.slice (some ⟨w.heap.size, 0, none⟩) n n) (w.alloc (.cells (madeCells #[.string ⟨#[]⟩, .slice none 0 0] (n * 2)) 46)) := by
  obtain ⟨i0, hi, hz0, hz1, hz2⟩ := info_parts info_fc
  have h := run_make (P := Tryz.prog) w 31 46 i0 _ Tryz.underlying31 hi hz0 .i64 .i64 n n (by omega) (by omega) (by rw [hz2]; omega) (by omega)
  rw [hz1, show (Value.agg #[.string ⟨#[]⟩, .slice none 0 0]).cells = #[.string ⟨#[]⟩, .slice none 0 0] from rfl] at h
  simpa using h
def ringL (fs : List Fc) (j : Nat) : Nat := (fs.getD j fc0).2.length
/-- The cells of a row of faces, of which the first k are laid. -/
def faF (fs : List Fc) (rs : Nat → Nat) (k j : Nat) : Value := if j < k * 2 then (if j % 2 = 0 then .string (fs.getD (j / 2) fc0).1 else .slice (some ⟨rs (j / 2), 0, none⟩) (ringL fs (j / 2)) (ringL fs (j / 2))) else (if j % 2 = 0 then .string ⟨#[]⟩ else .slice none 0 0)
theorem made_fcs (w : World) (n : Nat) (fs : List Fc) (rs : Nat → Nat) (t : TypeId) : (w.alloc (.cells (madeCells #[.string ⟨#[]⟩, .slice none 0 0] (n * 2)) t)).rowIs w.heap.size t (n * 2) (faF fs rs 0) := by
  have h := World.rowIs_alloc w (madeCells #[.string ⟨#[]⟩, .slice none 0 0] (n * 2)) t (faF fs rs 0) (fun i hi => by
    rw [size_madeCells] at hi
    have h2 : i % 2 = 0 ∨ i % 2 = 1 := by omega
    rcases h2 with h2 | h2 <;> simp [madeCells, hi, faF, h2])
  rw [size_madeCells] at h
  exact h
theorem faF_step {fs : List Fc} {rs : Nat → Nat} {k g : Nat} {s : ByteArray} {n : Nat} (hs : (fs.getD k fc0).1 = s) (hn : ringL fs k = n) (j : Nat) :
    (if j = k * 2 + 1 then Value.slice (some ⟨g, 0, none⟩) n n else if j = k * 2 then Value.string s else faF fs rs k j) = faF fs (fun i => if i = k then g else rs i) (k + 1) j := by
  unfold faF
  by_cases h1 : j = k * 2 + 1
  · subst h1
    have a1 : (k * 2 + 1) / 2 = k := by omega
    have a2 : (k * 2 + 1) % 2 = 1 := by omega
    rw [if_pos rfl, if_pos (by omega), a1, a2, if_neg (by omega), hn]; simp
  · rw [if_neg h1]
    by_cases h2 : j = k * 2
    · subst h2
      have a1 : (k * 2) / 2 = k := by omega
      have a2 : (k * 2) % 2 = 0 := by omega
      rw [if_pos rfl, if_pos (by omega), a1, a2, hs]; rfl
    · rw [if_neg h2]
      by_cases h3 : j < k * 2
      · rw [if_pos h3, if_pos (show j < (k + 1) * 2 by omega)]; dsimp only; rw [if_neg (show ¬ j / 2 = k by omega)]
      · rw [if_neg h3, if_neg (show ¬ j < (k + 1) * 2 by omega)]
/-- Faces that lie in a block of their own, each ring in one of its own. -/
def FO (lo : Nat) (w : World) (b : Nat) (fs : List Fc) : Prop := lo ≤ b ∧ ∃ cur, w.heap[b]? = some (.cells cur 46 (0, 0)) ∧ cur.size = fs.length * 2 ∧ ∀ j, j < fs.length → (fs.getD j fc0).1.size ≤ 9223372036854775807 ∧ cur[j * 2]? = some (.string (fs.getD j fc0).1) ∧
  ∃ r, cur[j * 2 + 1]? = some (.slice (some ⟨r, 0, none⟩) (ringL fs j) (ringL fs j)) ∧ r ≠ b ∧ w.ownsRow lo 2 1 (.slice (some ⟨r, 0, none⟩) (ringL fs j) (ringL fs j)) (ringL fs j) (flatI (fs.getD j fc0).2)
theorem FO.below {lo : Nat} {w w' : World} {b : Nat} {fs : List Fc} (h : FO lo w b fs) (hb : Below w.heap.size w w') : FO lo w' b fs := by
  obtain ⟨h1, cur, h2, h3, h4⟩ := h
  refine ⟨h1, cur, (hb.block b (Array.getElem?_eq_some_iff.1 h2).1).trans h2, h3, fun j hj => ?_⟩
  obtain ⟨q1, q2, r, q3, q4, q5⟩ := h4 j hj
  exact ⟨q1, q2, r, q3, q4, own_below q5 hb⟩
theorem FO.lower {lo lo' : Nat} {w : World} {b : Nat} {fs : List Fc} (h : FO lo w b fs) (hl : lo' ≤ lo) : FO lo' w b fs := by
  obtain ⟨h1, cur, h2, h3, h4⟩ := h
  refine ⟨Nat.le_trans hl h1, cur, h2, h3, fun j hj => ?_⟩
  obtain ⟨q1, q2, r, q3, q4, q5⟩ := h4 j hj
  exact ⟨q1, q2, r, q3, q4, own_lower q5 hl⟩
theorem FO.set {lo : Nat} {w : World} {b : Nat} {fs : List Fc} (h : FO lo w b fs) (a : Addr) (u : Value) (ha : a.block < lo) : FO lo (w.setCell a u) b fs := by
  obtain ⟨h1, cur, h2, h3, h4⟩ := h
  refine ⟨h1, cur, (Below.heap_setCell _ _ _ _ (by omega)).trans h2, h3, fun j hj => ?_⟩
  obtain ⟨q1, q2, r, q3, q4, q5⟩ := h4 j hj
  exact ⟨q1, q2, r, q3, q4, keep_set q5 _ _ ha⟩
theorem fcs_le {fs : List Fc} (h : fsSz fs ≤ 1048576) {j : Nat} (hj : j < fs.length) : (fs.getD j fc0).1.size + ringL fs j ≤ 1048576 := by
  have h1 := sumN_le (fcAt fs) (show j + 1 ≤ fs.length by omega)
  have h2 : sumN (fcAt fs) (j + 1) = sumN (fcAt fs) j + ((fs.getD j fc0).1.size + ringL fs j) := rfl
  unfold fsSz at h
  omega
set_option maxRecDepth 100000 in
set_option maxHeartbeats 4000000 in
theorem toFcs_own (ao : Option Addr) (m c : Nat) (fs : List Fc) (w : World) (hm : fsSz fs ≤ 1048576) (hv : FL w ao m fs) :
    Calls Tryz.prog 18 #[.slice ao m c] w fun e w' => ∃ b, e = .returned (.slice (some ⟨b, 0, none⟩) m m) ∧ FO w.heap.size w' b fs ∧ Below w.heap.size w w' := by
  have HV := Lib.hid hv
  have HZ := Lib.hid hv.1
  have HM := Lib.hid hm
  have hm1 : m ≤ 1048576 := by have := hv.1; unfold fsSz at hm; omega
  clear hv hm
  have hmk := make_fcs m hm1
  go_enter Tryz.func18, Tryz.ntmps18
  go_wp2
  clear hmk
  go_loopw [4] (fun iv wr => ∃ k : Nat, k ≤ m ∧ iv = .int .i64 k ∧ Hid (∃ rs : Nat → Nat, wr.rowIs w.heap.size 46 (m * 2) (faF fs rs k) ∧ ∀ j, j < k → wr.ownsRow (w.heap.size + 1) 2 1 (.slice (some ⟨rs j, 0, none⟩) (ringL fs j) (ringL fs j)) (ringL fs j) (flatI (fs.getD j fc0).2)) ∧ Hid (Below w.heap.size w wr)) (fun i _ => m - (intOf i).toNat)
  case atStart => exact ⟨0, by omega, rfl, Lib.hid ⟨fun _ => 0, made_fcs w m fs _ _, fun j hj => by omega⟩, Lib.hid (one_alloc _)⟩
  case round =>
    obtain ⟨k, hk, rfl, hr, hb⟩ := hrel
    by_cases hlt : k < m
    · obtain ⟨b, off, rfl, hbw, hcs⟩ := HV.out.2.resolve_left (by omega)
      obtain ⟨q1, c0, a, n, c', c1, q4, q5⟩ := hcs k hlt
      have hln := fcs_le HM.out (j := k) (by have := HZ.out; omega)
      have HN := Lib.hid (show ringL fs k = n from q5.1.symm)
      rw [HN.out] at hln
      replace c0 := (hb.out.cell (p := ⟨b, off + k * 2, none⟩) hbw).trans c0
      replace c1 := (hb.out.cell (p := ⟨b, off + k * 2 + 1, none⟩) hbw).trans c1
      have HQ := Lib.hid (q5.below (show Below w.heap.size w wr from hb.out))
      obtain ⟨rs, hrow, hown⟩ := hr.out
      have HO := Lib.hid hown
      obtain ⟨s, e⟩ : ∃ s, (fs.getD k fc0).1 = s := ⟨_, rfl⟩
      rw [e] at c0
      have hgw := hrow.lt
      have HROW := Lib.hid hrow
      have hbr : b < wr.heap.size := Nat.lt_of_lt_of_le hbw hb.out.size
      clear hcs q5 hrow hown hr
      go_wp2_with fail
      refine (toFc_own s a n c' _ _ (by omega) HQ.out).mono ?_
      rintro e' w1 ⟨g, rfl, ho, hb1⟩
      have HB1 := Lib.hid hb1
      have hr1 := rowIs_below HROW.out hb1
      have d0 := hr1.cell (i := k * 2) (by omega)
      have d1 := hr1.cell (i := k * 2 + 1) (by omega)
      rw [faF, if_neg (by omega), if_pos (by omega)] at d0
      rw [faF, if_neg (by omega), if_neg (by omega)] at d1
      have f0 := hr1.frozen (k * 2)
      have f1 := hr1.frozen (k * 2 + 1)
      have HR1 := Lib.hid hr1
      have HO1 := Lib.hid ho
      have HE := Lib.hid (faF_step (rs := rs) (g := g) e HN.out)
      have hw1 := hb1.size
      clear hb1 hr1 ho c0 c1 e
      unfold fcV
      go_wp2
      go_roundw
      case rel =>
        refine ⟨k + 1, by omega, by go_num, Lib.hid ⟨fun i => if i = k then g else rs i, ((HR1.out.set (k * 2) _).set (k * 2 + 1) _).congr (fun j _ => HE.out j), fun j hj => ?_⟩, Lib.hid (((bseq hb.out HB1.out).setCell (Nat.le_refl _) _).setCell (Nat.le_refl _) _)⟩
        by_cases hjk : j = k
        · subst hjk
          dsimp only
          rw [if_pos rfl, HN.out]
          exact keep_set (keep_set (own_lower HO1.out (by omega)) _ _ (by simp)) _ _ (by simp)
        · dsimp only
          rw [if_neg hjk]
          exact keep_set (keep_set (own_below (HO.out j (by omega)) HB1.out) _ _ (by simp)) _ _ (by simp)
      case measure => simp [intOf]; omega
    · obtain rfl : k = m := by omega
      go_wp2
      go_ret
      obtain ⟨rs, hrow, hown⟩ := hr.out
      obtain ⟨cur, h1, h2, h3⟩ := hrow
      refine ⟨_, rfl, ⟨Nat.le_refl _, cur, h1, by rw [h2, HZ.out], fun j hj => ?_⟩, hb.out⟩
      have hjk : j < k := by have := HZ.out; omega
      obtain ⟨b, off, _, _, hcs⟩ := HV.out.2.resolve_left (by omega)
      obtain ⟨q1, _⟩ := hcs j hjk
      have z0 := h3 (j * 2) (by omega)
      have z1 := h3 (j * 2 + 1) (by omega)
      have a1 : (j * 2) / 2 = j := by omega
      have a2 : (j * 2) % 2 = 0 := by omega
      have a3 : (j * 2 + 1) / 2 = j := by omega
      have a4 : (j * 2 + 1) % 2 = 1 := by omega
      rw [faF, if_pos (by omega), a1, a2, if_pos rfl] at z0
      rw [faF, if_pos (by omega), a3, a4, if_neg (by omega)] at z1
      have hj' := hown j hjk
      have h9 : w.heap.size + 1 ≤ rs j := (hj'.lt (rs j) rfl).1
      exact ⟨q1, z0, rs j, z1, by omega, own_lower hj' (show w.heap.size ≤ w.heap.size + 1 by omega)⟩
/-- A drawing of its own, as a value and in memory. -/
structure DO (lo : Nat) (w : World) (v : Value) (D : Drw) : Prop where
  out : ∃ p b, v = .agg #[.int .i64 D.wd, .int .i64 D.hg, .slice (some ⟨p, 0, none⟩) D.ps.length D.ps.length, .slice (some ⟨b, 0, none⟩) D.fs.length D.fs.length] ∧ (Lit.int .i64 D.wd).wf = true ∧ (Lit.int .i64 D.hg).wf = true ∧ dSz D ≤ 1048576 ∧
    w.ownsRow lo 67 2 (.slice (some ⟨p, 0, none⟩) D.ps.length D.ps.length) D.ps.length (flatP D.ps) ∧ FO lo w b D.fs
theorem DO.below {lo : Nat} {w w' : World} {v : Value} {D : Drw} (h : DO lo w v D) (hb : Below w.heap.size w w') : DO lo w' v D := by
  obtain ⟨p, b, h1, h2, h3, h4, h5, h6⟩ := h.out
  exact ⟨p, b, h1, h2, h3, h4, own_below h5 hb, h6.below hb⟩
set_option maxRecDepth 100000 in
set_option maxHeartbeats 4000000 in
theorem toDr_own (v : Value) (D : Drw) (w : World) (hs : dSz D ≤ 1048576) (hv : DL w v D) :
    Calls Tryz.prog 6 #[v] w fun e w' => ∃ v', e = .returned v' ∧ DO w.heap.size w' v' D ∧ Below w.heap.size w w' := by
  obtain ⟨ao, n, c, bo, m, d, rfl, wa, wb, hn, hm, hp, hf⟩ := hv.out
  have HP := Lib.hid hp
  have HF := Lib.hid hf
  have HS := Lib.hid hs
  have hn1 : n ≤ 1048576 := by have := hp.1; unfold dSz at hs; omega
  have HFS := Lib.hid (show fsSz D.fs ≤ 1048576 by unfold dSz at hs; omega)
  have HW := Lib.hid (And.intro wa wb)
  clear hv hp hf wa wb hs
  go_enter Tryz.func6, Tryz.ntmps6
  go_wp2_with fail
  have HA := Lib.hid (three_allocs (w := w) (.cells #[.int .i64 D.wd, .int .i64 D.hg, .slice ao n c, .slice bo m d] 25) (.cells #[.int .i64 0, .int .i64 0, .slice none 0 0, .slice none 0 0] 33) (.cells #[.int .i64 D.wd, .int .i64 D.hg, .slice none 0 0, .slice none 0 0] 33))
  refine (toPts_own ao n c D.ps _ hn1 (HP.out.below HA.out)).mono ?_
  rintro e w1 ⟨p, rfl, hp1, _, hb1⟩
  have HP1 := Lib.hid hp1
  have HB1 := Lib.hid hb1
  have hs1 := hb1.size
  simp only [World.size_alloc] at hs1
  have o1 : w1.heap[w.heap.size + 1]? = some (.cells #[.int .i64 0, .int .i64 0, .slice none 0 0, .slice none 0 0] 33 (0, 0)) := (hb1.block _ (by simp)).trans ((Below.heap_alloc _ _ _ (by simp)).trans (by
    have := World.alloc_heap_new (w.alloc (.cells #[.int .i64 D.wd, .int .i64 D.hg, .slice ao n c, .slice bo m d] 25)) (.cells #[.int .i64 0, .int .i64 0, .slice none 0 0, .slice none 0 0] 33)
    simpa using this))
  have o2 : w1.heap[w.heap.size + 1 + 1]? = some (.cells #[.int .i64 D.wd, .int .i64 D.hg, .slice none 0 0, .slice none 0 0] 33 (0, 0)) := (hb1.block _ (by simp)).trans (by
    have := World.alloc_heap_new ((w.alloc (.cells #[.int .i64 D.wd, .int .i64 D.hg, .slice ao n c, .slice bo m d] 25)).alloc (.cells #[.int .i64 0, .int .i64 0, .slice none 0 0, .slice none 0 0] 33)) (.cells #[.int .i64 D.wd, .int .i64 D.hg, .slice none 0 0, .slice none 0 0] 33)
    simpa using this)
  have a3 : w1.cell? ⟨w.heap.size, 3, none⟩ = some (.slice bo m d) := by rw [(bcell hb1).1 _ _ (by simp <;> omega)]; go_simp
  have O1 := Lib.hid o1
  have O2 := Lib.hid o2
  obtain ⟨c0, f0, c1, f1, c2, f2, c3, f3⟩ := cells4_of o2
  have hz : w.heap.size + 1 + 1 < w1.heap.size := by omega
  have HW1 := Lib.hid (HA.out.trans (hb1.mono (by simp <;> omega)))
  clear hb1 hp1 o1 o2
  go_wp2_with fail
  have HW2 := Lib.hid (HW1.out.setCell (p := ⟨w.heap.size + 1 + 1, 2, none⟩) (by show w.heap.size ≤ w.heap.size + 1 + 1; omega) (.slice (some ⟨p, 0, none⟩) n n))
  refine (toFcs_own bo m d D.fs _ HFS.out (HF.out.below HW2.out)).mono ?_
  rintro e w3 ⟨b, rfl, hf3, hb3⟩
  have HF3 := Lib.hid hf3
  have hs3 := hb3.size
  simp only [World.size_setCell] at hs3
  have o1 : w3.heap[w.heap.size + 1]? = some (.cells #[.int .i64 0, .int .i64 0, .slice none 0 0, .slice none 0 0] 33 (0, 0)) := (hb3.block _ (by simp; omega)).trans ((Below.heap_setCell _ _ _ _ (by simp)).trans O1.out)
  have o2 : w3.heap[w.heap.size + 1 + 1]? = some (.cells #[.int .i64 D.wd, .int .i64 D.hg, .slice (some ⟨p, 0, none⟩) n n, .slice none 0 0] 33 (0, 0)) := (hb3.block _ (by simp; omega)).trans (heap_setCell_same _ _ _ _ _ _ O2.out)
  have HP3 := Lib.hid (own_below (keep_set HP1.out ⟨w.heap.size + 1 + 1, 2, none⟩ (.slice (some ⟨p, 0, none⟩) n n) (by simp)) hb3)
  have HW3 := Lib.hid (HW2.out.trans (hb3.mono (by simp; omega)))
  clear hb3 hf3 c0 f0 c1 f1 c2 f2 c3 f3 a3
  obtain ⟨c0, f0, c1, f1, c2, f2, c3, f3⟩ := cells4_of o2
  obtain ⟨d0, g0, d1, g1, d2, g2, d3, g3⟩ := cells4_of o1
  have hz3 : w.heap.size + 1 + 1 < w3.heap.size := by omega
  clear o1 o2 hz
  go_wp2
  have e1 := ((((HF3.out.set ⟨w.heap.size + 1 + 1, 3, none⟩ (.slice (some ⟨b, 0, none⟩) m m) (by simp; omega)).set ⟨w.heap.size + 1, 0, none⟩ (.int .i64 D.wd) (by simp; omega)).set ⟨w.heap.size + 1, 1, none⟩ (.int .i64 D.hg) (by simp; omega)).set ⟨w.heap.size + 1, 2, none⟩ (.slice (some ⟨p, 0, none⟩) n n) (by simp; omega)).set ⟨w.heap.size + 1, 3, none⟩ (.slice (some ⟨b, 0, none⟩) m m) (by simp; omega)
  have e2 := keep_set (keep_set (keep_set (keep_set (keep_set HP3.out ⟨w.heap.size + 1 + 1, 3, none⟩ (.slice (some ⟨b, 0, none⟩) m m) (by simp)) ⟨w.heap.size + 1, 0, none⟩ (.int .i64 D.wd) (by simp)) ⟨w.heap.size + 1, 1, none⟩ (.int .i64 D.hg) (by simp)) ⟨w.heap.size + 1, 2, none⟩ (.slice (some ⟨p, 0, none⟩) n n) (by simp)) ⟨w.heap.size + 1, 3, none⟩ (.slice (some ⟨b, 0, none⟩) m m) (by simp)
  have e3 := ((((HW3.out.setCell (p := ⟨w.heap.size + 1 + 1, 3, none⟩) (by show w.heap.size ≤ w.heap.size + 1 + 1; omega) (.slice (some ⟨b, 0, none⟩) m m)).setCell (p := ⟨w.heap.size + 1, 0, none⟩) (by show w.heap.size ≤ w.heap.size + 1; omega) (.int .i64 D.wd)).setCell (p := ⟨w.heap.size + 1, 1, none⟩) (by show w.heap.size ≤ w.heap.size + 1; omega) (.int .i64 D.hg)).setCell (p := ⟨w.heap.size + 1, 2, none⟩) (by show w.heap.size ≤ w.heap.size + 1; omega) (.slice (some ⟨p, 0, none⟩) n n)).setCell (p := ⟨w.heap.size + 1, 3, none⟩) (by show w.heap.size ≤ w.heap.size + 1; omega) (.slice (some ⟨b, 0, none⟩) m m)
  have hn' : n = D.ps.length := HP.out.1
  have hm' : m = D.fs.length := HF.out.1
  refine bodyPost_ret (v := .agg #[.int .i64 D.wd, .int .i64 D.hg, .slice (some ⟨p, 0, none⟩) n n, .slice (some ⟨b, 0, none⟩) m m]) (by simp [results, Tryz.results6, go_sem, d0, d1, d2, d3, hz3]) rfl ⟨_, rfl, ⟨p, b, by rw [hn', hm'], HW.out.1, HW.out.2, HS.out, ?_, e1.lower (by simp; omega)⟩, e3⟩
  rw [← hn']
  exact own_lower e2 (by simp; omega)
end Go.Proofs.YtfhlafnjccoocaaGreat
namespace Go.Proofs.YtfhlafnjccoocaaGreat
open Go.ChangeShapes Go.WideShapes Go.ChangeAt Go.RowKit
set_option linter.unusedVariables false
set_option linter.unusedSimpArgs false

/-- A slice of faces at the start of a block, or an empty one. -/
def FV (w : World) (ao : Option Addr) (m : Nat) (fs : List Fc) : Prop := m = fs.length ∧ (m = 0 ∨ ∃ b, ao = some ⟨b, 0, none⟩ ∧ b < w.heap.size ∧ ∀ j, j < m → (fs.getD j fc0).1.size ≤ 9223372036854775807 ∧ w.cell? ⟨b, j * 2, none⟩ = some (.string (fs.getD j fc0).1) ∧
  ∃ a c, w.cell? ⟨b, j * 2 + 1, none⟩ = some (.slice a (ringL fs j) c) ∧ IV w a (ringL fs j) (fs.getD j fc0).2)
theorem FV.below {w w' : World} {ao : Option Addr} {m : Nat} {fs : List Fc} (h : FV w ao m fs) (hb : Below w.heap.size w w') : FV w' ao m fs :=
  ⟨h.1, h.2.imp id fun ⟨b, e, h1, h2⟩ => ⟨b, e, Nat.lt_of_lt_of_le h1 hb.size, fun j hj => by
    obtain ⟨q1, q2, a, c, q3, q5⟩ := h2 j hj
    exact ⟨q1, (hb.cell (p := ⟨b, j * 2, none⟩) h1).trans q2, a, c, (hb.cell (p := ⟨b, j * 2 + 1, none⟩) h1).trans q3, q5.below hb⟩⟩⟩
theorem FV.at {w : World} {ao : Option Addr} {m : Nat} {fs : List Fc} (h : FV w ao m fs) {k : Nat} (hk : k < m) : ∃ b s r a n c, ao = some ⟨b, 0, none⟩ ∧ b < w.heap.size ∧ fs.getD k fc0 = (s, r) ∧ s.size ≤ 9223372036854775807 ∧ w.cell? ⟨b, k * 2, none⟩ = some (.string s) ∧ w.cell? ⟨b, k * 2 + 1, none⟩ = some (.slice a n c) ∧ n = ringL fs k ∧ IV w a n r := by
  obtain ⟨b, e, hb, hc⟩ := h.2.resolve_left (by omega)
  obtain ⟨q1, q2, a, c, q3, q5⟩ := hc k hk
  exact ⟨b, _, _, a, _, c, e, hb, rfl, q1, q2, q3, rfl, q5⟩
/-- A drawing, as a value and in memory. -/
structure DV (w : World) (v : Value) (D : Drw) : Prop where
  out : ∃ ao n c bo m d, v = .agg #[.int .i64 D.wd, .int .i64 D.hg, .slice ao n c, .slice bo m d] ∧ (Lit.int .i64 D.wd).wf = true ∧ (Lit.int .i64 D.hg).wf = true ∧ dSz D ≤ 1048576 ∧ PV w ao n D.ps ∧ FV w bo m D.fs
theorem DV.below {w w' : World} {v : Value} {D : Drw} (h : DV w v D) (hb : Below w.heap.size w w') : DV w' v D := by
  obtain ⟨ao, n, c, bo, m, d, h1, h2, h3, h4, h5, h6⟩ := h.out
  exact ⟨ao, n, c, bo, m, d, h1, h2, h3, h4, h5.below hb, h6.below hb⟩
theorem IV_of {w : World} {lo n r : Nat} {zs : List Int} (hn : n = zs.length) (h : w.ownsRow lo 2 1 (.slice (some ⟨r, 0, none⟩) n n) n (flatI zs)) : IV w (some ⟨r, 0, none⟩) n zs := own_pvI hn h
theorem FO.view {lo : Nat} {w : World} {b : Nat} {fs : List Fc} (h : FO lo w b fs) : FV w (some ⟨b, 0, none⟩) fs.length fs := by
  obtain ⟨h1, cur, h2, h3, h4⟩ := h
  refine ⟨rfl, Or.inr ⟨b, rfl, (Array.getElem?_eq_some_iff.1 h2).1, fun j hj => ?_⟩⟩
  obtain ⟨q1, q2, r, q3, q4, q5⟩ := h4 j hj
  exact ⟨q1, (cell_of_arr h2 q2).1, _, _, (cell_of_arr h2 q3).1, IV_of rfl q5⟩
theorem DO.view {lo : Nat} {w : World} {v : Value} {D : Drw} (h : DO lo w v D) : DV w v D := by
  obtain ⟨p, b, h1, h2, h3, h4, h5, h6⟩ := h.out
  exact ⟨_, _, _, _, _, _, h1, h2, h3, h4, own_pv' h5, h6.view⟩
set_option maxRecDepth 100000 in
set_option maxHeartbeats 1000000 in
theorem eqFc_same (s : ByteArray) (a b : Option Addr) (n c d : Nat) (r : List Int) (w : World) (hn : n ≤ 1048576) (ha : IV w a n r) (hb : IV w b n r) :
    Calls Tryz.prog 41 #[.agg #[.string s, .slice a n c], .agg #[.string s, .slice b n d]] w fun e w' => e = .returned (.bool true) ∧ Below w.heap.size w w' := by
  have HA := Lib.hid (ha.below (two_allocs (.cells #[.string s, .slice a n c] 46) (.cells #[.string s, .slice b n d] 46)))
  have HB := Lib.hid (hb.below (two_allocs (.cells #[.string s, .slice a n c] 46) (.cells #[.string s, .slice b n d] 46)))
  clear ha hb
  go_enter Tryz.func41, Tryz.ntmps41
  go_wp2_with fail
  refine (eqI_same _ _ n _ _ r _ hn HA.out HB.out).mono ?_
  rintro e w1 ⟨rfl, g1⟩
  have HG := Lib.hid (bseq (two_allocs _ _) g1)
  clear g1
  go_wp2
  go_ret
  exact ⟨rfl, HG.out⟩
set_option maxRecDepth 100000 in
set_option maxHeartbeats 1000000 in
theorem eqFcs_same (ao bo : Option Addr) (m c d : Nat) (fs : List Fc) (w : World) (hs : fsSz fs ≤ 1048576) (ha : FV w ao m fs) (hb : FV w bo m fs) :
    Calls Tryz.prog 23 #[.slice ao m c, .slice bo m d] w fun e w' => e = .returned (.bool true) ∧ Below w.heap.size w w' := by
  have HA := Lib.hid ha
  have HB := Lib.hid hb
  have HZ := Lib.hid ha.1
  have HS := Lib.hid hs
  have hm : m ≤ 1048576 := by have := ha.1; unfold fsSz at hs; omega
  clear ha hb hs
  go_enter Tryz.func23, Tryz.ntmps23
  go_wp2
  go_loopw [5] (fun iv wr => ∃ k : Nat, k ≤ m ∧ iv = .int .i64 k ∧ Hid (Below w.heap.size w wr)) (fun i _ => m - (intOf i).toNat)
  case atStart => exact ⟨0, by omega, rfl, Lib.hid (Below.refl _ _)⟩
  case round =>
    obtain ⟨k, hk, rfl, hw⟩ := hrel
    by_cases hlt : k < m
    · have hln := fcs_le HS.out (j := k) (by have := HZ.out; omega)
      obtain ⟨a, s, r, a1, n1, c1, rfl, haw, e1, _, x0, x1, en1, hi1⟩ := (HA.out.below hw.out).at hlt
      obtain ⟨b, s', r', b1, n2, d1, rfl, hbw, e2, _, y0, y1, en2, hi2⟩ := (HB.out.below hw.out).at hlt
      rw [e1] at e2
      cases e2
      obtain rfl : n2 = n1 := by omega
      have hn : n2 ≤ 1048576 := by omega
      have HI1 := Lib.hid hi1
      have HI2 := Lib.hid hi2
      clear e1 en1 en2 hln hi1 hi2
      go_wp2
      refine wp_region_below (by kernel_rfl) (by kernel_rfl) ?_
      repeat (first | (refine wq_skip ?_ ?_; (focus (go_simp; done)); (try simp only [Act.put, List.setIfInBounds_toArray, List.set_cons_zero, List.set_cons_succ])) | (refine wq_val ?_ ?_; (focus (go_simp; done)); apply Exists.intro; refine ⟨fun w1 hw1 => ?_, ?_⟩; (obtain ⟨hc, hf⟩ := bcell hw1; clear hw1; go_simp; (first | done | with_reducible rfl | (with_reducible exact eql2 _ _ _) | (with_reducible exact neq2 _ _ _))); (try simp only [Act.put, List.setIfInBounds_toArray, List.set_cons_zero, List.set_cons_succ])) | (refine wq_call 41 ?_ ?_; (focus (go_simp; done)); apply Exists.intro; refine ⟨fun w1 hw1 => ?_, ?_⟩; (focus (clear hw1; go_simp; (first | done | with_reducible rfl))); apply Exists.intro; refine ⟨fun w1 hw1 => ?_, ?_⟩; (focus (exact calls_below hw1 (eqFc_same _ _ _ _ _ _ r _ hn (HI1.out.below hw1) (HI2.out.below hw1)); done)); (try simp only [Act.put, List.setIfInBounds_toArray, List.set_cons_zero, List.set_cons_succ])))
      refine wq_nil ?_
      intro w1 hb1
      have HB1 := Lib.hid hb1
      clear hb1
      go_wp2
      go_roundw
      case rel => exact ⟨k + 1, by omega, by go_num, Lib.hid (bseq hw.out HB1.out)⟩
      case measure => simp [intOf]; omega
    · go_wp2
      go_ret
      exact ⟨rfl, hw.out⟩
set_option maxRecDepth 100000 in
set_option maxHeartbeats 1000000 in
theorem eqDr_same (u v : Value) (D : Drw) (w : World) (hu : DV w u D) (hv : DV w v D) :
    Calls Tryz.prog 9 #[u, v] w fun e w' => e = .returned (.bool true) ∧ Below w.heap.size w w' := by
  obtain ⟨ao, n, c, bo, m, d, rfl, _, _, hs, hp, hf⟩ := hu.out
  obtain ⟨ao', n', c', bo', m', d', rfl, _, _, _, hp', hf'⟩ := hv.out
  obtain rfl : n' = n := by have := hp.1; have := hp'.1; omega
  obtain rfl : m' = m := by have := hf.1; have := hf'.1; omega
  have hn : n' ≤ 1048576 := by have := hp.1; unfold dSz at hs; omega
  have HFS := Lib.hid (show fsSz D.fs ≤ 1048576 by unfold dSz at hs; omega)
  have h2 := two_allocs (w := w) (.cells #[.int .i64 D.wd, .int .i64 D.hg, .slice ao n' c, .slice bo m' d] 33) (.cells #[.int .i64 D.wd, .int .i64 D.hg, .slice ao' n' c', .slice bo' m' d'] 33)
  have HP := Lib.hid (hp.below h2)
  have HP' := Lib.hid (hp'.below h2)
  have HF := Lib.hid (hf.below h2)
  have HF' := Lib.hid (hf'.below h2)
  clear hu hv hp hf hp' hf' hs h2
  go_enter Tryz.func9, Tryz.ntmps9
  go_wp2_with fail
  refine (eqPts_same _ _ n' _ _ D.ps _ hn HP.out HP'.out).mono ?_
  rintro e w1 ⟨rfl, g1⟩
  have HG := Lib.hid g1
  have c3 : w1.cell? ⟨w.heap.size, 3, none⟩ = some (.slice bo m' d) := by rw [(bcell g1).1 _ _ (by simp <;> omega)]; go_simp
  have d3 : w1.cell? ⟨w.heap.size + 1, 3, none⟩ = some (.slice bo' m' d') := by rw [(bcell g1).1 _ _ (by simp)]; go_simp
  clear g1
  go_wp2_with fail
  refine (eqFcs_same _ _ m' _ _ D.fs _ HFS.out (HF.out.below HG.out) (HF'.out.below HG.out)).mono ?_
  rintro e w2 ⟨rfl, g2⟩
  have HG2 := Lib.hid (bseq (two_allocs _ _) (bseq HG.out g2))
  clear g2
  go_wp2
  go_ret
  exact ⟨rfl, HG2.out⟩
end Go.Proofs.YtfhlafnjccoocaaGreat
