/- Copies of drawings that a law has made: the faces, the whole. -/
import Derived.Test.YtkmmhkhbpfkmcaaDrw3
namespace Go.Proofs.Ytkmmhkhbpfkmcaa
open Go.ChangeShapes Go.WideShapes Go.ChangeAt Go.RowKit
set_option linter.unusedVariables false
set_option linter.unusedSimpArgs false

theorem info_fc : (Try.prog.info? 65).map (fun i => (i.zero, i.size, i.bytes)) = some (some (.agg #[.string ⟨#[]⟩, .slice none 0 0]), 2, 40) := by kernel_rfl
theorem make_fcs (n : Nat) (hn : n ≤ 1048576) (w : World) : (Instr.makeSlice 32 (.int .i64 (n : Int)) (.int .i64 (n : Int))).run Try.prog w = .ok (.slice (some ⟨w.heap.size, 0, none⟩) n n) (w.alloc (.cells (madeCells #[.string ⟨#[]⟩, .slice none 0 0] (n * 2)) 65)) := by
  obtain ⟨i0, hi, hz0, hz1, hz2⟩ := info_parts info_fc
  have h := run_make (P := Try.prog) w 32 65 i0 _ Try.underlying32 hi hz0 .i64 .i64 n n (by omega) (by omega) (by rw [hz2]; omega) (by omega)
  rw [hz1, show (Value.agg #[.string ⟨#[]⟩, .slice none 0 0]).cells = #[.string ⟨#[]⟩, .slice none 0 0] from rfl] at h
  simpa using h
def ringL (fs : List Fc) (j : Nat) : Nat := (fs.getD j fc0).2.length
/-- The cells of a row of faces, of which the first k are laid. -/
def faF (fs : List Fc) (rs : Nat → Nat) (k j : Nat) : Value := if j < k * 2 then (if j % 2 = 0 then .string (fs.getD (j / 2) fc0).1 else .slice (some ⟨rs (j / 2), 0, none⟩) (ringL fs (j / 2)) (ringL fs (j / 2))) else (if j % 2 = 0 then .string ⟨#[]⟩ else .slice none 0 0)
theorem made_fcs (w : World) (n : Nat) (fs : List Fc) (rs : Nat → Nat) (t : TypeId) : (w.alloc (.cells (madeCells #[.string ⟨#[]⟩, .slice none 0 0] (n * 2)) t)).rowIs w.heap.size t (n * 2) (faF fs rs 0) := by
  have h := World.rowIs_alloc w (madeCells #[.string ⟨#[]⟩, .slice none 0 0] (n * 2)) t (faF fs rs 0) (fun i hi => by
    rw [size_madeCells] at hi
    have h2 : i % 2 = 0 ∨ i % 2 = 1 := by omega
    rcases h2 with h2 | h2 <;> simp [madeCells, hi, faF, h2])
  rw [size_madeCells] at h
  exact h
theorem faF_step {fs : List Fc} {rs : Nat → Nat} {k g : Nat} {s : ByteArray} {n : Nat} (hs : (fs.getD k fc0).1 = s) (hn : ringL fs k = n) (j : Nat) :
    (if j = k * 2 + 1 then Value.slice (some ⟨g, 0, none⟩) n n else if j = k * 2 then Value.string s else faF fs rs k j) = faF fs (fun i => if i = k then g else rs i) (k + 1) j := by
  unfold faF
  by_cases h1 : j = k * 2 + 1
  · subst h1
    have a1 : (k * 2 + 1) / 2 = k := by omega
    have a2 : (k * 2 + 1) % 2 = 1 := by omega
    rw [if_pos rfl, if_pos (by omega), a1, a2, if_neg (by omega), hn]; simp
  · rw [if_neg h1]
    by_cases h2 : j = k * 2
    · subst h2
      have a1 : (k * 2) / 2 = k := by omega
      have a2 : (k * 2) % 2 = 0 := by omega
      rw [if_pos rfl, if_pos (by omega), a1, a2, hs]; rfl
    · rw [if_neg h2]
      by_cases h3 : j < k * 2
      · rw [if_pos h3, if_pos (show j < (k + 1) * 2 by omega)]; dsimp only; rw [if_neg (show ¬ j / 2 = k by omega)]
      · rw [if_neg h3, if_neg (show ¬ j < (k + 1) * 2 by omega)]
/-- Faces that lie in a block of their own, each ring in one of its own. -/
def FO (lo : Nat) (w : World) (b : Nat) (fs : List Fc) : Prop := lo ≤ b ∧ ∃ cur, w.heap[b]? = some (.cells cur 65 (0, 0)) ∧ cur.size = fs.length * 2 ∧ ∀ j, j < fs.length → (fs.getD j fc0).1.size ≤ 9223372036854775807 ∧ cur[j * 2]? = some (.string (fs.getD j fc0).1) ∧
  ∃ r, cur[j * 2 + 1]? = some (.slice (some ⟨r, 0, none⟩) (ringL fs j) (ringL fs j)) ∧ r ≠ b ∧ w.ownsRow lo 2 1 (.slice (some ⟨r, 0, none⟩) (ringL fs j) (ringL fs j)) (ringL fs j) (flatI (fs.getD j fc0).2)
theorem FO.below {lo : Nat} {w w' : World} {b : Nat} {fs : List Fc} (h : FO lo w b fs) (hb : Below w.heap.size w w') : FO lo w' b fs := by
  obtain ⟨h1, cur, h2, h3, h4⟩ := h
  refine ⟨h1, cur, (hb.block b (Array.getElem?_eq_some_iff.1 h2).1).trans h2, h3, fun j hj => ?_⟩
  obtain ⟨q1, q2, r, q3, q4, q5⟩ := h4 j hj
  exact ⟨q1, q2, r, q3, q4, own_below q5 hb⟩
theorem FO.lower {lo lo' : Nat} {w : World} {b : Nat} {fs : List Fc} (h : FO lo w b fs) (hl : lo' ≤ lo) : FO lo' w b fs := by
  obtain ⟨h1, cur, h2, h3, h4⟩ := h
  refine ⟨Nat.le_trans hl h1, cur, h2, h3, fun j hj => ?_⟩
  obtain ⟨q1, q2, r, q3, q4, q5⟩ := h4 j hj
  exact ⟨q1, q2, r, q3, q4, own_lower q5 hl⟩
theorem FO.set {lo : Nat} {w : World} {b : Nat} {fs : List Fc} (h : FO lo w b fs) (a : Addr) (u : Value) (ha : a.block < lo) : FO lo (w.setCell a u) b fs := by
  obtain ⟨h1, cur, h2, h3, h4⟩ := h
  refine ⟨h1, cur, (Below.heap_setCell _ _ _ _ (by omega)).trans h2, h3, fun j hj => ?_⟩
  obtain ⟨q1, q2, r, q3, q4, q5⟩ := h4 j hj
  exact ⟨q1, q2, r, q3, q4, keep_set q5 _ _ ha⟩
theorem fcs_le {fs : List Fc} (h : fsSz fs ≤ 1048576) {j : Nat} (hj : j < fs.length) : (fs.getD j fc0).1.size + ringL fs j ≤ 1048576 := by
  have h1 := sumN_le (fcAt fs) (show j + 1 ≤ fs.length by omega)
  have h2 : sumN (fcAt fs) (j + 1) = sumN (fcAt fs) j + ((fs.getD j fc0).1.size + ringL fs j) := rfl
  unfold fsSz at h
  omega
set_option maxRecDepth 100000 in
set_option maxHeartbeats 4000000 in
theorem toFcs_own (ao : Option Addr) (m c : Nat) (fs : List Fc) (w : World) (hm : fsSz fs ≤ 1048576) (hv : FL w ao m fs) :
    Calls Try.prog 23 #[.slice ao m c] w fun e w' => ∃ b, e = .returned (.slice (some ⟨b, 0, none⟩) m m) ∧ FO w.heap.size w' b fs ∧ Below w.heap.size w w' := by
  have HV := Lib.hid hv
  have HZ := Lib.hid hv.1
  have HM := Lib.hid hm
  have hm1 : m ≤ 1048576 := by have := hv.1; unfold fsSz at hm; omega
  clear hv hm
  have hmk := make_fcs m hm1
  go_enter Try.func23, Try.ntmps23
  go_wp2
  clear hmk
  go_loopw [4] (fun iv wr => ∃ k : Nat, k ≤ m ∧ iv = .int .i64 k ∧ Hid (∃ rs : Nat → Nat, wr.rowIs w.heap.size 65 (m * 2) (faF fs rs k) ∧ ∀ j, j < k → wr.ownsRow (w.heap.size + 1) 2 1 (.slice (some ⟨rs j, 0, none⟩) (ringL fs j) (ringL fs j)) (ringL fs j) (flatI (fs.getD j fc0).2)) ∧ Hid (Below w.heap.size w wr)) (fun i _ => m - (intOf i).toNat)
  case atStart => exact ⟨0, by omega, rfl, Lib.hid ⟨fun _ => 0, made_fcs w m fs _ _, fun j hj => by omega⟩, Lib.hid (one_alloc _)⟩
  case round =>
    obtain ⟨k, hk, rfl, hr, hb⟩ := hrel
    by_cases hlt : k < m
    · obtain ⟨b, off, rfl, hbw, hcs⟩ := HV.out.2.resolve_left (by omega)
      obtain ⟨q1, c0, a, n, c', c1, q4, q5⟩ := hcs k hlt
      have hln := fcs_le HM.out (j := k) (by have := HZ.out; omega)
      have HN := Lib.hid (show ringL fs k = n from q5.1.symm)
      rw [HN.out] at hln
      replace c0 := (hb.out.cell (p := ⟨b, off + k * 2, none⟩) hbw).trans c0
      replace c1 := (hb.out.cell (p := ⟨b, off + k * 2 + 1, none⟩) hbw).trans c1
      have HQ := Lib.hid (q5.below (show Below w.heap.size w wr from hb.out))
      obtain ⟨rs, hrow, hown⟩ := hr.out
      have HO := Lib.hid hown
      obtain ⟨s, e⟩ : ∃ s, (fs.getD k fc0).1 = s := ⟨_, rfl⟩
      rw [e] at c0
      have hgw := hrow.lt
      have HROW := Lib.hid hrow
      have hbr : b < wr.heap.size := Nat.lt_of_lt_of_le hbw hb.out.size
      clear hcs q5 hrow hown hr
      go_wp2_with fail
      refine (toFc_own s a n c' _ _ (by omega) HQ.out).mono ?_
      rintro e' w1 ⟨g, rfl, ho, hb1⟩
      have HB1 := Lib.hid hb1
      have hr1 := rowIs_below HROW.out hb1
      have d0 := hr1.cell (i := k * 2) (by omega)
      have d1 := hr1.cell (i := k * 2 + 1) (by omega)
      rw [faF, if_neg (by omega), if_pos (by omega)] at d0
      rw [faF, if_neg (by omega), if_neg (by omega)] at d1
      have f0 := hr1.frozen (k * 2)
      have f1 := hr1.frozen (k * 2 + 1)
      have HR1 := Lib.hid hr1
      have HO1 := Lib.hid ho
      have HE := Lib.hid (faF_step (rs := rs) (g := g) e HN.out)
      have hw1 := hb1.size
      clear hb1 hr1 ho c0 c1 e
      unfold fcV
      go_wp2
      go_roundw
      case rel =>
        refine ⟨k + 1, by omega, by go_num, Lib.hid ⟨fun i => if i = k then g else rs i, ((HR1.out.set (k * 2) _).set (k * 2 + 1) _).congr (fun j _ => HE.out j), fun j hj => ?_⟩, Lib.hid (((bseq hb.out HB1.out).setCell (Nat.le_refl _) _).setCell (Nat.le_refl _) _)⟩
        by_cases hjk : j = k
        · subst hjk
          dsimp only
          rw [if_pos rfl, HN.out]
          exact keep_set (keep_set (own_lower HO1.out (by omega)) _ _ (by simp)) _ _ (by simp)
        · dsimp only
          rw [if_neg hjk]
          exact keep_set (keep_set (own_below (HO.out j (by omega)) HB1.out) _ _ (by simp)) _ _ (by simp)
      case measure => simp [intOf]; omega
    · obtain rfl : k = m := by omega
      go_wp2
      go_ret
      obtain ⟨rs, hrow, hown⟩ := hr.out
      obtain ⟨cur, h1, h2, h3⟩ := hrow
      refine ⟨_, rfl, ⟨Nat.le_refl _, cur, h1, by rw [h2, HZ.out], fun j hj => ?_⟩, hb.out⟩
      have hjk : j < k := by have := HZ.out; omega
      obtain ⟨b, off, _, _, hcs⟩ := HV.out.2.resolve_left (by omega)
      obtain ⟨q1, _⟩ := hcs j hjk
      have z0 := h3 (j * 2) (by omega)
      have z1 := h3 (j * 2 + 1) (by omega)
      have a1 : (j * 2) / 2 = j := by omega
      have a2 : (j * 2) % 2 = 0 := by omega
      have a3 : (j * 2 + 1) / 2 = j := by omega
      have a4 : (j * 2 + 1) % 2 = 1 := by omega
      rw [faF, if_pos (by omega), a1, a2, if_pos rfl] at z0
      rw [faF, if_pos (by omega), a3, a4, if_neg (by omega)] at z1
      have hj' := hown j hjk
      have h9 : w.heap.size + 1 ≤ rs j := (hj'.lt (rs j) rfl).1
      exact ⟨q1, z0, rs j, z1, by omega, own_lower hj' (show w.heap.size ≤ w.heap.size + 1 by omega)⟩
/-- A drawing of its own, as a value and in memory. -/
structure DO (lo : Nat) (w : World) (v : Value) (D : Drw) : Prop where
  out : ∃ p b, v = .agg #[.int .i64 D.wd, .int .i64 D.hg, .slice (some ⟨p, 0, none⟩) D.ps.length D.ps.length, .slice (some ⟨b, 0, none⟩) D.fs.length D.fs.length] ∧ (Lit.int .i64 D.wd).wf = true ∧ (Lit.int .i64 D.hg).wf = true ∧ dSz D ≤ 1048576 ∧
    w.ownsRow lo 61 2 (.slice (some ⟨p, 0, none⟩) D.ps.length D.ps.length) D.ps.length (flatP D.ps) ∧ FO lo w b D.fs
theorem DO.below {lo : Nat} {w w' : World} {v : Value} {D : Drw} (h : DO lo w v D) (hb : Below w.heap.size w w') : DO lo w' v D := by
  obtain ⟨p, b, h1, h2, h3, h4, h5, h6⟩ := h.out
  exact ⟨p, b, h1, h2, h3, h4, own_below h5 hb, h6.below hb⟩
set_option maxRecDepth 100000 in
set_option maxHeartbeats 4000000 in
theorem toDr_own (v : Value) (D : Drw) (w : World) (hs : dSz D ≤ 1048576) (hv : DL w v D) :
    Calls Try.prog 12 #[v] w fun e w' => ∃ v', e = .returned v' ∧ DO w.heap.size w' v' D ∧ Below w.heap.size w w' := by
  obtain ⟨ao, n, c, bo, m, d, rfl, wa, wb, hn, hm, hp, hf⟩ := hv.out
  have HP := Lib.hid hp
  have HF := Lib.hid hf
  have HS := Lib.hid hs
  have hn1 : n ≤ 1048576 := by have := hp.1; unfold dSz at hs; omega
  have HFS := Lib.hid (show fsSz D.fs ≤ 1048576 by unfold dSz at hs; omega)
  have HW := Lib.hid (And.intro wa wb)
  clear hv hp hf wa wb hs
  go_enter Try.func12, Try.ntmps12
  go_wp2_with fail
  have HA := Lib.hid (three_allocs (w := w) (.cells #[.int .i64 D.wd, .int .i64 D.hg, .slice ao n c, .slice bo m d] 25) (.cells #[.int .i64 0, .int .i64 0, .slice none 0 0, .slice none 0 0] 34) (.cells #[.int .i64 D.wd, .int .i64 D.hg, .slice none 0 0, .slice none 0 0] 34))
  refine (toPts_own ao n c D.ps _ hn1 (HP.out.below HA.out)).mono ?_
  rintro e w1 ⟨p, rfl, hp1, _, hb1⟩
  have HP1 := Lib.hid hp1
  have HB1 := Lib.hid hb1
  have hs1 := hb1.size
  simp only [World.size_alloc] at hs1
  have o1 : w1.heap[w.heap.size + 1]? = some (.cells #[.int .i64 0, .int .i64 0, .slice none 0 0, .slice none 0 0] 34 (0, 0)) := (hb1.block _ (by simp)).trans ((Below.heap_alloc _ _ _ (by simp)).trans (by
    have := World.alloc_heap_new (w.alloc (.cells #[.int .i64 D.wd, .int .i64 D.hg, .slice ao n c, .slice bo m d] 25)) (.cells #[.int .i64 0, .int .i64 0, .slice none 0 0, .slice none 0 0] 34)
    simpa using this))
  have o2 : w1.heap[w.heap.size + 1 + 1]? = some (.cells #[.int .i64 D.wd, .int .i64 D.hg, .slice none 0 0, .slice none 0 0] 34 (0, 0)) := (hb1.block _ (by simp)).trans (by
    have := World.alloc_heap_new ((w.alloc (.cells #[.int .i64 D.wd, .int .i64 D.hg, .slice ao n c, .slice bo m d] 25)).alloc (.cells #[.int .i64 0, .int .i64 0, .slice none 0 0, .slice none 0 0] 34)) (.cells #[.int .i64 D.wd, .int .i64 D.hg, .slice none 0 0, .slice none 0 0] 34)
    simpa using this)
  have a3 : w1.cell? ⟨w.heap.size, 3, none⟩ = some (.slice bo m d) := by rw [(bcell hb1).1 _ _ (by simp <;> omega)]; go_simp
  have O1 := Lib.hid o1
  have O2 := Lib.hid o2
  obtain ⟨c0, f0, c1, f1, c2, f2, c3, f3⟩ := cells4_of o2
  have hz : w.heap.size + 1 + 1 < w1.heap.size := by omega
  have HW1 := Lib.hid (HA.out.trans (hb1.mono (by simp <;> omega)))
  clear hb1 hp1 o1 o2
  go_wp2_with fail
  have HW2 := Lib.hid (HW1.out.setCell (p := ⟨w.heap.size + 1 + 1, 2, none⟩) (by show w.heap.size ≤ w.heap.size + 1 + 1; omega) (.slice (some ⟨p, 0, none⟩) n n))
  refine (toFcs_own bo m d D.fs _ HFS.out (HF.out.below HW2.out)).mono ?_
  rintro e w3 ⟨b, rfl, hf3, hb3⟩
  have HF3 := Lib.hid hf3
  have hs3 := hb3.size
  simp only [World.size_setCell] at hs3
  have o1 : w3.heap[w.heap.size + 1]? = some (.cells #[.int .i64 0, .int .i64 0, .slice none 0 0, .slice none 0 0] 34 (0, 0)) := (hb3.block _ (by simp; omega)).trans ((Below.heap_setCell _ _ _ _ (by simp)).trans O1.out)
  have o2 : w3.heap[w.heap.size + 1 + 1]? = some (.cells #[.int .i64 D.wd, .int .i64 D.hg, .slice (some ⟨p, 0, none⟩) n n, .slice none 0 0] 34 (0, 0)) := (hb3.block _ (by simp; omega)).trans (heap_setCell_same _ _ _ _ _ _ O2.out)
  have HP3 := Lib.hid (own_below (keep_set HP1.out ⟨w.heap.size + 1 + 1, 2, none⟩ (.slice (some ⟨p, 0, none⟩) n n) (by simp)) hb3)
  have HW3 := Lib.hid (HW2.out.trans (hb3.mono (by simp; omega)))
  clear hb3 hf3 c0 f0 c1 f1 c2 f2 c3 f3 a3
  obtain ⟨c0, f0, c1, f1, c2, f2, c3, f3⟩ := cells4_of o2
  obtain ⟨d0, g0, d1, g1, d2, g2, d3, g3⟩ := cells4_of o1
  have hz3 : w.heap.size + 1 + 1 < w3.heap.size := by omega
  clear o1 o2 hz
  go_wp2
  have e1 := ((((HF3.out.set ⟨w.heap.size + 1 + 1, 3, none⟩ (.slice (some ⟨b, 0, none⟩) m m) (by simp; omega)).set ⟨w.heap.size + 1, 0, none⟩ (.int .i64 D.wd) (by simp; omega)).set ⟨w.heap.size + 1, 1, none⟩ (.int .i64 D.hg) (by simp; omega)).set ⟨w.heap.size + 1, 2, none⟩ (.slice (some ⟨p, 0, none⟩) n n) (by simp; omega)).set ⟨w.heap.size + 1, 3, none⟩ (.slice (some ⟨b, 0, none⟩) m m) (by simp; omega)
  have e2 := keep_set (keep_set (keep_set (keep_set (keep_set HP3.out ⟨w.heap.size + 1 + 1, 3, none⟩ (.slice (some ⟨b, 0, none⟩) m m) (by simp)) ⟨w.heap.size + 1, 0, none⟩ (.int .i64 D.wd) (by simp)) ⟨w.heap.size + 1, 1, none⟩ (.int .i64 D.hg) (by simp)) ⟨w.heap.size + 1, 2, none⟩ (.slice (some ⟨p, 0, none⟩) n n) (by simp)) ⟨w.heap.size + 1, 3, none⟩ (.slice (some ⟨b, 0, none⟩) m m) (by simp)
  have e3 := ((((HW3.out.setCell (p := ⟨w.heap.size + 1 + 1, 3, none⟩) (by show w.heap.size ≤ w.heap.size + 1 + 1; omega) (.slice (some ⟨b, 0, none⟩) m m)).setCell (p := ⟨w.heap.size + 1, 0, none⟩) (by show w.heap.size ≤ w.heap.size + 1; omega) (.int .i64 D.wd)).setCell (p := ⟨w.heap.size + 1, 1, none⟩) (by show w.heap.size ≤ w.heap.size + 1; omega) (.int .i64 D.hg)).setCell (p := ⟨w.heap.size + 1, 2, none⟩) (by show w.heap.size ≤ w.heap.size + 1; omega) (.slice (some ⟨p, 0, none⟩) n n)).setCell (p := ⟨w.heap.size + 1, 3, none⟩) (by show w.heap.size ≤ w.heap.size + 1; omega) (.slice (some ⟨b, 0, none⟩) m m)
  have hn' : n = D.ps.length := HP.out.1
  have hm' : m = D.fs.length := HF.out.1
  refine bodyPost_ret (v := .agg #[.int .i64 D.wd, .int .i64 D.hg, .slice (some ⟨p, 0, none⟩) n n, .slice (some ⟨b, 0, none⟩) m m]) (by simp [results, Try.results12, go_sem, d0, d1, d2, d3, hz3]) rfl ⟨_, rfl, ⟨p, b, by rw [hn', hm'], HW.out.1, HW.out.2, HS.out, ?_, e1.lower (by simp; omega)⟩, e3⟩
  rw [← hn']
  exact own_lower e2 (by simp; omega)
end Go.Proofs.Ytkmmhkhbpfkmcaa
