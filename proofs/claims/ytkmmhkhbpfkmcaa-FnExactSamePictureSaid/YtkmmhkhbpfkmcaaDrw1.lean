/- Drawings among the arguments of a law: what they are, and that they read so. -/
import Derived.Test.YtkmmhkhbpfkmcaaK5
import Derived.Test.YtkmmhkhbpfkmcaaK8
namespace Go.Proofs.Ytkmmhkhbpfkmcaa
open Go.ChangeShapes Go.WideShapes Go.ChangeAt Go.RowKit Go.Joins Go.Deep
set_option linter.unusedVariables false

/-- A face: its name and its ring. -/
abbrev Fc := ByteArray × List Int
def fc0 : Fc := (ByteArray.empty, [])
structure Drw where
  wd : Int
  hg : Int
  ps : List P2
  fs : List Fc
/-- A slice of integers that came in. -/
def IL (w : World) (ao : Option Addr) (n : Nat) (zs : List Int) : Prop := n = zs.length ∧ (n = 0 ∨ ∃ b off, ao = some ⟨b, off, none⟩ ∧ b < w.heap.size ∧ ∀ j, j < n → w.cell? ⟨b, off + j, none⟩ = some (.int .i64 (zs.getD j 0)))
theorem IL.below {w w' : World} {ao : Option Addr} {n : Nat} {zs : List Int} (h : IL w ao n zs) (hb : Below w.heap.size w w') : IL w' ao n zs :=
  ⟨h.1, h.2.imp id fun ⟨b, off, e, h1, h2⟩ => ⟨b, off, e, Nat.lt_of_lt_of_le h1 hb.size, fun j hj => (hb.cell (p := ⟨b, off + j, none⟩) h1).trans (h2 j hj)⟩⟩
/-- A slice of faces that came in. -/
def FL (w : World) (ao : Option Addr) (m : Nat) (fs : List Fc) : Prop := m = fs.length ∧ (m = 0 ∨ ∃ b off, ao = some ⟨b, off, none⟩ ∧ b < w.heap.size ∧ ∀ j, j < m → (fs.getD j fc0).1.size ≤ 9223372036854775807 ∧ w.cell? ⟨b, off + j * 2, none⟩ = some (.string (fs.getD j fc0).1) ∧
  ∃ a n c, w.cell? ⟨b, off + j * 2 + 1, none⟩ = some (.slice a n c) ∧ n ≤ 9223372036854775807 ∧ IL w a n (fs.getD j fc0).2)
theorem FL.below {w w' : World} {ao : Option Addr} {m : Nat} {fs : List Fc} (h : FL w ao m fs) (hb : Below w.heap.size w w') : FL w' ao m fs :=
  ⟨h.1, h.2.imp id fun ⟨b, off, e, h1, h2⟩ => ⟨b, off, e, Nat.lt_of_lt_of_le h1 hb.size, fun j hj => by
    obtain ⟨q1, q2, a, n, c, q3, q4, q5⟩ := h2 j hj
    exact ⟨q1, (hb.cell (p := ⟨b, off + j * 2, none⟩) h1).trans q2, a, n, c, (hb.cell (p := ⟨b, off + j * 2 + 1, none⟩) h1).trans q3, q4, q5.below hb⟩⟩⟩
theorem cell_lt {w : World} {a : Addr} {v : Value} (h : w.cell? a = some v) : a.block < w.heap.size := by
  unfold World.cell? at h
  cases e : w.heap[a.block]? with
  | none => rw [e] at h; cases h
  | some o => exact (Array.getElem?_eq_some_iff.1 e).1
theorem cLF : Try.prog.cellsOf 71 = 2 := by kernel_rfl
theorem cLD : Try.prog.cellsOf 25 = 4 := by kernel_rfl
theorem cI64 : Try.prog.cellsOf 2 = 1 := by kernel_rfl
theorem cStr : Try.prog.cellsOf 9 = 1 := by kernel_rfl
theorem cSI : Try.prog.cellsOf 63 = 1 := by kernel_rfl
theorem cSP : Try.prog.cellsOf 22 = 1 := by kernel_rfl
theorem cSF : Try.prog.cellsOf 23 = 1 := by kernel_rfl
section
variable {H : Type} {enc : TypeId × Value → H} {W : World} {base : Nat} {sp : Nat → Bool}
set_option maxRecDepth 100000 in
theorem ints_open {fuel : Nat} {cs : List Value} {x : DataW H × List MemPlace} (h : DataW.trod enc Try.prog W base sp true fuel 63 cs = some x) : ∃ ao n cap zs, cs = [.slice ao n cap] ∧ n ≤ 9223372036854775807 ∧ IL W ao n zs := by
  rcases open_slice Try.underlying63 h with ⟨rfl, _⟩ | ⟨a, len, cap, m, n, D, Pl, rfl, _, hl, hm, hmm, _, hi⟩
  · exact ⟨none, 0, 0, [], rfl, by omega, rfl, Or.inl rfl⟩
  · rw [cI64] at hi
    have hlm : len ≤ m := by rw [hmm]; split <;> omega
    have hi2 : ∀ i, i < len → ∃ q : Int, W.cell? ((a.add (i * 1)).add 0) = some (.int .i64 q) := fun i him => by
      obtain ⟨cs', hc, ht⟩ := hi i (by omega)
      obtain ⟨_, hcl, hat⟩ := World.cells?_some hc
      obtain ⟨q, rfl, _, _⟩ := DataW.trod_int Try.underlying2 ht
      exact ⟨q, hat 0 (by omega)⟩
    obtain ⟨f, hfn⟩ := choose_lt hi2
    refine ⟨some a, len, cap, (List.range len).map f, rfl, by unfold maxLen at hm; omega, by simp, ?_⟩
    by_cases h0 : len = 0
    · exact Or.inl h0
    · right
      obtain ⟨b, off, spot⟩ := a
      have hspot : spot = none := by
        have := World.cell?_spot (hfn 0 (by omega))
        simpa [Addr.add] using this
      subst hspot
      refine ⟨b, off, rfl, ?_, fun j hj => ?_⟩
      · have := cell_lt (hfn 0 (by omega))
        simpa [Addr.add] using this
      · have h2 := hfn j hj
        rw [add_off, add_off] at h2
        have e : ((List.range len).map f).getD j 0 = f j := by simp [hj]
        rw [e]
        simpa using h2
set_option maxRecDepth 100000 in
theorem pts_open {fuel : Nat} {cs : List Value} {x : DataW H × List MemPlace} (h : DataW.trod enc Try.prog W base sp true fuel 22 cs = some x) : ∃ ao n cap zs, cs = [.slice ao n cap] ∧ n ≤ 9223372036854775807 ∧ LView W ao n zs := by
  rcases open_slice Try.underlying22 h with ⟨rfl, _⟩ | ⟨a, len, cap, m, n, D, Pl, rfl, _, hl, hm, hmm, _, hi⟩
  · exact ⟨none, 0, 0, [], rfl, by omega, rfl, Or.inl rfl⟩
  · rw [cLP] at hi
    have hlm : len ≤ m := by rw [hmm]; split <;> omega
    have hi2 : ∀ i, i < len → ∃ q : P2, W.cell? ((a.add (i * 2)).add 0) = some (.int .i64 q.1) ∧ W.cell? ((a.add (i * 2)).add 1) = some (.int .i64 q.2) := fun i him => by
      obtain ⟨cs', hc, ht⟩ := hi i (by omega)
      obtain ⟨_, hcl, hat⟩ := World.cells?_some hc
      obtain ⟨x, y, rfl⟩ := pt_cells ht
      exact ⟨(x, y), hat 0 (by omega), hat 1 (by omega)⟩
    obtain ⟨f, hfn⟩ := choose_lt hi2
    refine ⟨some a, len, cap, (List.range len).map f, rfl, by unfold maxLen at hm; omega, by simp, ?_⟩
    by_cases h0 : len = 0
    · exact Or.inl h0
    · right
      obtain ⟨b, off, spot⟩ := a
      have hspot : spot = none := by
        have := World.cell?_spot (hfn 0 (by omega)).1
        simpa [Addr.add] using this
      subst hspot
      refine ⟨b, off, rfl, ?_, fun j hj => ?_⟩
      · have := cell_lt (hfn 0 (by omega)).1
        simpa [Addr.add] using this
      · have h2 := hfn j hj
        rw [add_off, add_off, add_off] at h2
        have e : ((List.range len).map f).getD j (0, 0) = f j := by simp [hj]
        rw [e]
        exact h2
set_option maxRecDepth 100000 in
/-- The two cells of a face. -/
theorem face_cells {fuel : Nat} {cs : List Value} {x : DataW H × List MemPlace} (h : DataW.trod enc Try.prog W base sp true fuel 71 cs = some x) :
    ∃ (s : ByteArray) (a : Option Addr) (n c : Nat) (zs : List Int), cs = [.string s, .slice a n c] ∧ s.size ≤ 9223372036854775807 ∧ n ≤ 9223372036854775807 ∧ IL W a n zs := by
  obtain ⟨y0, y1, m, _, hl, h0, h1⟩ := trod_struct2 Try.underlying71 h
  rw [cLF] at hl
  match cs, hl with
  | [c0, c1], _ =>
    change DataW.trod enc Try.prog W base sp true m 9 (([c0, c1].drop 0).take (Try.prog.cellsOf 9)) = _ at h0
    change DataW.trod enc Try.prog W base sp true m 63 (([c0, c1].drop 1).take (Try.prog.cellsOf 63)) = _ at h1
    rw [cStr] at h0
    rw [cSI] at h1
    obtain ⟨s, e0, _, hs⟩ := DataW.trod_string Try.underlying9 h0
    obtain ⟨a, n, c, zs, e1, hn, hv⟩ := ints_open h1
    simp at e0 e1
    subst e0 e1
    exact ⟨s, a, n, c, zs, rfl, by unfold maxLen at hs; omega, hn, hv⟩
instance : Inhabited Fc := ⟨fc0⟩
set_option maxRecDepth 100000 in
theorem faces_open {fuel : Nat} {cs : List Value} {x : DataW H × List MemPlace} (h : DataW.trod enc Try.prog W base sp true fuel 23 cs = some x) : ∃ ao n cap fs, cs = [.slice ao n cap] ∧ n ≤ 9223372036854775807 ∧ FL W ao n fs := by
  rcases open_slice Try.underlying23 h with ⟨rfl, _⟩ | ⟨a, len, cap, m, n, D, Pl, rfl, _, hl, hm, hmm, _, hi⟩
  · exact ⟨none, 0, 0, [], rfl, by omega, rfl, Or.inl rfl⟩
  · rw [cLF] at hi
    have hlm : len ≤ m := by rw [hmm]; split <;> omega
    have hi2 : ∀ i, i < len → ∃ q : Fc, q.1.size ≤ 9223372036854775807 ∧ W.cell? ((a.add (i * 2)).add 0) = some (.string q.1) ∧ ∃ a' n' c', W.cell? ((a.add (i * 2)).add 1) = some (.slice a' n' c') ∧ n' ≤ 9223372036854775807 ∧ IL W a' n' q.2 := fun i him => by
      obtain ⟨cs', hc, ht⟩ := hi i (by omega)
      obtain ⟨_, hcl, hat⟩ := World.cells?_some hc
      obtain ⟨s, a', n', c', zs, rfl, h1, h2, h3⟩ := face_cells ht
      exact ⟨(s, zs), h1, hat 0 (by omega), a', n', c', hat 1 (by omega), h2, h3⟩
    obtain ⟨f, hfn⟩ := choose_lt hi2
    refine ⟨some a, len, cap, (List.range len).map f, rfl, by unfold maxLen at hm; omega, by simp, ?_⟩
    by_cases h0 : len = 0
    · exact Or.inl h0
    · right
      obtain ⟨b, off, spot⟩ := a
      have hspot : spot = none := by
        have := World.cell?_spot (hfn 0 (by omega)).2.1
        simpa [Addr.add] using this
      subst hspot
      refine ⟨b, off, rfl, ?_, fun j hj => ?_⟩
      · have := cell_lt (hfn 0 (by omega)).2.1
        simpa [Addr.add] using this
      · have h2 := hfn j hj
        rw [add_off, add_off, add_off] at h2
        have e : ((List.range len).map f).getD j fc0 = f j := by simp [hj]
        rw [e]
        exact h2
end
/-- A drawing that came in, as a value and in memory. -/
structure DL (w : World) (v : Value) (D : Drw) : Prop where
  out : ∃ ao n c bo m d, v = .agg #[.int .i64 D.wd, .int .i64 D.hg, .slice ao n c, .slice bo m d] ∧ (Lit.int .i64 D.wd).wf = true ∧ (Lit.int .i64 D.hg).wf = true ∧ n ≤ 9223372036854775807 ∧ m ≤ 9223372036854775807 ∧ LView w ao n D.ps ∧ FL w bo m D.fs
theorem DL.below {w w' : World} {v : Value} {D : Drw} (h : DL w v D) (hb : Below w.heap.size w w') : DL w' v D := by
  obtain ⟨ao, n, c, bo, m, d, h1, h2, h3, h4, h5, h6, h7⟩ := h.out
  exact ⟨ao, n, c, bo, m, d, h1, h2, h3, h4, h5, h6.below hb, h7.below hb⟩
set_option maxRecDepth 100000 in
theorem open_draw {H : Type} {enc : TypeId × Value → H} {W : World} {base : Nat} {v : Value} {d : DataW H} {p : List MemPlace} (hval : Value.okWide Try.prog W .any base 25 v)
    (h : DataW.Trod enc Try.prog W 0 (fun _ => true) true 25 v d p) : ∃ D : Drw, DL W v D := by
  obtain ⟨cs, rfl, hcs⟩ := okWide_struct Try.underlying25 hval
  obtain ⟨fuel, hf0⟩ := h
  obtain ⟨xs, m, _, hx, hl, hlen, hf⟩ := DataW.trod_struct Try.underlying25 hf0
  rw [cLD] at hcs
  obtain ⟨l, rfl⟩ : ∃ l : List Value, cs = l.toArray := ⟨cs.toList, by simp⟩
  match l, hcs with
  | [c0, c1, c2, c3], _ =>
    match xs, hlen with
    | [y0, y1, y2, y3], _ =>
      have h0 := hf 0 _ rfl
      have h1 := hf 1 _ rfl
      have h2 := hf 2 _ rfl
      have h3 := hf 3 _ rfl
      change DataW.trod enc Try.prog W 0 (fun _ => true) true m 2 (([c0, c1, c2, c3].drop 0).take (Try.prog.cellsOf 2)) = _ at h0
      change DataW.trod enc Try.prog W 0 (fun _ => true) true m 2 (([c0, c1, c2, c3].drop 1).take (Try.prog.cellsOf 2)) = _ at h1
      change DataW.trod enc Try.prog W 0 (fun _ => true) true m 22 (([c0, c1, c2, c3].drop 2).take (Try.prog.cellsOf 22)) = _ at h2
      change DataW.trod enc Try.prog W 0 (fun _ => true) true m 23 (([c0, c1, c2, c3].drop 3).take (Try.prog.cellsOf 23)) = _ at h3
      rw [cI64] at h0 h1
      rw [cSP] at h2
      rw [cSF] at h3
      obtain ⟨a, e0, _, wa⟩ := DataW.trod_int Try.underlying2 h0
      obtain ⟨b, e1, _, wb⟩ := DataW.trod_int Try.underlying2 h1
      obtain ⟨ao, n, c, zs, e2, hn, hv⟩ := pts_open h2
      obtain ⟨bo, m', d', fs, e3, hm, hw⟩ := faces_open h3
      simp at e0 e1 e2 e3
      subst e0 e1 e2 e3
      exact ⟨⟨a, b, zs, fs⟩, ao, n, c, bo, m', d', rfl, wa, wb, hn, hm, hv, hw⟩
end Go.Proofs.Ytkmmhkhbpfkmcaa
