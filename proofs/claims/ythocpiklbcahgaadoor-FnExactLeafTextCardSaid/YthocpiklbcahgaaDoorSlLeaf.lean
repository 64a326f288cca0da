/- Slices of the struct Leaf in laws: what came in, sizes, copies, views, equality. -/
import Derived.Test.YthocpiklbcahgaaDoorSbLeaf
import Derived.Test.YthocpiklbcahgaaDoorAtV
namespace Go.Proofs.YthocpiklbcahgaaDoor
open Seq2 Go.ChangeShapes Go.WideShapes Go.ChangeAt Go.RowKit Go.ChangeMaps Go.Joins Go.Deep
set_option linter.unusedVariables false
set_option linter.unusedSimpArgs false

def lf0 : Lf := ⟨ByteArray.empty, ByteArray.empty, 0, vn0, 0, 0, []⟩
instance : Inhabited Lf := ⟨lf0⟩
/-- A slice that came in. -/
def LfsL (w : World) (ao : Option Addr) (n : Nat) (zs : List Lf) : Prop := n = zs.length ∧ (n = 0 ∨ ∃ b off, ao = some ⟨b, off, none⟩ ∧ ∀ j, j < n → ∃ v, LfL w v (zs.getD j lf0) ∧ AtV w b (off + j * 9) v)
theorem LfsL.below {w w' : World} {ao : Option Addr} {n : Nat} {zs : List Lf} (h : LfsL w ao n zs) (hb : Below w.heap.size w w') : LfsL w' ao n zs :=
  ⟨h.1, h.2.imp id fun ⟨b, off, e, h1⟩ => ⟨b, off, e, fun j hj => by obtain ⟨v, q1, q2⟩ := h1 j hj; exact ⟨v, q1.below hb, q2.below hb⟩⟩⟩
set_option maxRecDepth 100000 in
theorem Lfs_open {H : Type} {enc : TypeId × Value → H} {W : World} {base : Nat} {sp : Nat → Bool} {fuel : Nat} {cs : List Value} {x : DataW H × List MemPlace} (h : DataW.trod enc Tryd.prog W base sp true fuel 22 cs = some x) : ∃ ao n cap zs, cs = [.slice ao n cap] ∧ n ≤ 9223372036854775807 ∧ LfsL W ao n zs := by
  rcases open_slice Tryd.underlying22 h with ⟨rfl, _⟩ | ⟨a, n0, c0, m, n, D, Pl, rfl, _, hl, hm, hmm, _, hi⟩
  · exact ⟨none, 0, 0, [], rfl, by omega, rfl, Or.inl rfl⟩
  · rw [cLLf] at hi
    have hlm : n0 ≤ m := by rw [hmm]; split <;> omega
    have hi2 : ∀ i, i < n0 → ∃ q : Lf, ∃ v, LfL W v q ∧ v.cells.size = 9 ∧ ∀ j, j < 9 → W.cell? ((a.add (i * 9)).add j) = v.cells[j]? := fun i him => by
      obtain ⟨cs', hc, ht⟩ := hi i (by omega)
      obtain ⟨_, hcl, hat⟩ := World.cells?_some hc
      obtain ⟨z, ao6, n6, c6, rfl, q0_0, q1_0, q2_0, q3_0, q4_0, q5_0, q6_0, q6_1⟩ := Lf_open ht
      exact ⟨z, _, ⟨ao6, n6, c6, rfl, q0_0, q1_0, q2_0, q3_0, q4_0, q5_0, q6_0, q6_1⟩, rfl, fun j hj => (hat j hj).trans (by simp [Value.cells])⟩
    obtain ⟨f, hfn⟩ := choose_lt hi2
    refine ⟨some a, n0, c0, (List.range n0).map f, rfl, by unfold maxLen at hm; omega, by simp, ?_⟩
    by_cases h0 : n0 = 0
    · exact Or.inl h0
    · right
      obtain ⟨b, off, spot⟩ := a
      have hspot : spot = none := by
        obtain ⟨v, hv1, hv2, hv3⟩ := hfn 0 (by omega)
        have h4 := (hv3 0 (by omega)).trans (Array.getElem?_eq_getElem (by omega))
        have := World.cell?_spot h4
        simpa [Addr.add] using this
      subst hspot
      refine ⟨b, off, rfl, fun j hj => ?_⟩
      obtain ⟨v, hv1, hv2, hv3⟩ := hfn j hj
      have e : ((List.range n0).map f).getD j lf0 = f j := by simp [hj]
      rw [e]
      refine ⟨v, hv1, ?_, fun i hi => ?_⟩
      · have h4 := (hv3 0 (by omega)).trans (Array.getElem?_eq_getElem (by omega))
        rw [add_off, add_off] at h4
        exact cell_ltF h4
      · have h4 := hv3 i (by omega)
        rw [add_off, add_off] at h4
        exact h4
set_option maxRecDepth 100000 in
theorem open_Lfs {H : Type} {enc : TypeId × Value → H} {W : World} {base : Nat} {v : Value} {dd : DataW H} {p : List MemPlace} (hval : Value.okWide Tryd.prog W .any base 22 v)
    (h0 : DataW.Trod enc Tryd.prog W 0 (fun _ => true) true 22 v dd p) (hp : ∀ x ∈ p, x.block < W.heap.size) : ∃ ao n cap zs, v = .slice ao n cap ∧ n ≤ 9223372036854775807 ∧ LfsL W ao n zs := by
  obtain ⟨ao0, n0, c0, rfl⟩ := okWide_slice Tryd.underlying22 hval
  obtain ⟨fuel, h⟩ := h0
  have hc0 : (Value.slice ao0 n0 c0).cells.toList = [.slice ao0 n0 c0] := rfl
  rw [hc0] at h
  obtain ⟨ao, n, cap, zs, e, hn, hv⟩ := Lfs_open h
  cases e
  exact ⟨_, _, _, zs, rfl, hn, hv⟩
def LfSzA (zs : List Lf) (j : Nat) : Nat := LfSz (zs.getD j lf0)
def LfsSz (zs : List Lf) : Nat := zs.length + sumN (LfSzA zs) zs.length
theorem Lfs_le {zs : List Lf} (h : LfsSz zs ≤ 1048576) {j : Nat} (hj : j < zs.length) : LfSz (zs.getD j lf0) ≤ 1048576 := by
  have h1 := sumN_le (LfSzA zs) (show j + 1 ≤ zs.length by omega)
  have h2 : sumN (LfSzA zs) (j + 1) = sumN (LfSzA zs) j + LfSz (zs.getD j lf0) := rfl
  unfold LfsSz at h
  omega
set_option maxRecDepth 100000 in
set_option maxHeartbeats 1000000 in
theorem szLfs_any (ao : Option Addr) (m c : Nat) (zs : List Lf) (l : Int) (w : World) (h0 : 0 ≤ l) (hl : l ≤ 1048576) (hm : m ≤ 9223372036854775807) (hv : LfsL w ao m zs) :
    Calls Tryd.prog 10 #[.slice ao m c, .int .i64 l] w fun e w' => e = .returned (.int .i64 (lft l (LfsSz zs))) ∧ Below w.heap.size w w' := by
  have HV := Lib.hid hv
  have hmz := hv.1
  have e1 : IntKind.i64.wrap (l - (m : Int)) = l - (m : Int) := IntWalk.i64_in _ (by omega)
  by_cases hn : (m : Int) ≤ l
  · have e2 : decide (l - (m : Int) < 0) = false := by simp; omega
    have HF := Lib.hid (show LfsSz zs = m + sumN (LfSzA zs) m by unfold LfsSz; rw [← hmz])
    have HL := Lib.hid (fun k (h : k ≤ m) => sumN_le (LfSzA zs) h)
    generalize hg : LfSzA zs = g at *
    have HG := Lib.hid hg
    clear hv hg hmz
    go_enter Tryd.func10, Tryd.ntmps10
    go_wp2
    go_loopw [5, 1] (fun iv lv wr => ∃ k : Nat, k ≤ m ∧ iv = .int .i64 k ∧ Hid ((m : Int) + sumN g k ≤ l) ∧ lv = .int .i64 (l - m - sumN g k) ∧ Hid (Below w.heap.size w wr)) (fun i _ _ => m - (intOf i).toNat)
    case atStart => exact ⟨0, by omega, rfl, Lib.hid (by simp [sumN]; omega), by simp [sumN], Lib.hid (Below.refl _ _)⟩
    case round =>
      obtain ⟨k, hk, rfl, hs, rfl, hw⟩ := hrel
      have hs' := hs.out
      by_cases hlt : k < m
      · obtain ⟨b, off, rfl, hcs⟩ := (HV.out.below hw.out).2.resolve_left (by omega)
        obtain ⟨v, hvl, ha⟩ := hcs k hlt
        have HVL := Lib.hid hvl
        obtain ⟨ao6, n6, c6, rfl, _, _, _, _, _, _, _, _⟩ := hvl.out
        have c0 : wr.cell? ⟨b, off + k * 9, none⟩ = some _ := ha.at 0 rfl
        have c1 : wr.cell? ⟨b, off + k * 9 + 1, none⟩ = some _ := ha.at 1 rfl
        have c2 : wr.cell? ⟨b, off + k * 9 + 2, none⟩ = some _ := ha.at 2 rfl
        have c3 : wr.cell? ⟨b, off + k * 9 + 3, none⟩ = some _ := ha.at 3 rfl
        have c4 : wr.cell? ⟨b, off + k * 9 + 4, none⟩ = some _ := ha.at 4 rfl
        have c5 : wr.cell? ⟨b, off + k * 9 + 5, none⟩ = some _ := ha.at 5 rfl
        have c6 : wr.cell? ⟨b, off + k * 9 + 6, none⟩ = some _ := ha.at 6 rfl
        have c7 : wr.cell? ⟨b, off + k * 9 + 7, none⟩ = some _ := ha.at 7 rfl
        have c8 : wr.cell? ⟨b, off + k * 9 + 8, none⟩ = some _ := ha.at 8 rfl
        have hbw := ha.1
        obtain ⟨sz, hsz⟩ : ∃ q, LfSz (zs.getD k lf0) = q := ⟨_, rfl⟩
        have HS := Lib.hid (show sumN g (k + 1) = sumN g k + sz by
          show sumN g k + g k = _
          rw [← HG.out, ← hsz]; rfl)
        have HSZ := Lib.hid hsz
        clear hcs hsz ha hvl
        generalize zs.getD k lf0 = z at *
        generalize hsk : sumN g k = sk at *
        by_cases hq : ((sz : Nat) : Int) ≤ l - m - sk
        · have HQ := Lib.hid (lft_ok hq)
          have e3 : decide (l - (m : Int) - sk - ((sz : Nat) : Int) < 0) = false := by simp; omega
          go_wp2_with fail
          refine (szLf_any _ z _ _ (by omega) (by omega) HVL.out).mono ?_
          rintro e w1 ⟨rfl, g1⟩
          have HB := Lib.hid (bseq hw.out g1)
          clear g1
          rw [HSZ.out, HQ.out]
          go_wp2
          go_roundw
          case rel => exact ⟨k + 1, by omega, by go_num, Lib.hid (by rw [HS.out]; omega), by rw [HS.out]; exact val_int (by omega), HB⟩
          case measure => simp [intOf]; omega
        · have HQ := Lib.hid (lft_no hq)
          have HR := Lib.hid (show lft l (LfsSz zs) = -1 by
            refine lft_no ?_
            have h1 := HL.out (k + 1) (by omega)
            rw [HF.out]; rw [HS.out] at h1; omega)
          go_wp2_with fail
          refine (szLf_any _ z _ _ (by omega) (by omega) HVL.out).mono ?_
          rintro e w1 ⟨rfl, g1⟩
          have HB := Lib.hid (bseq hw.out g1)
          clear g1
          rw [HSZ.out, HQ.out]
          go_wp2
          go_ret
          exact ⟨ret_int HR.out.symm, HB.out⟩
      · obtain rfl : k = m := by omega
        have HR := Lib.hid (show lft l (LfsSz zs) = l - k - sumN g k by rw [lft_ok (by rw [HF.out]; omega), HF.out]; omega)
        go_wp2
        go_ret
        exact ⟨ret_int HR.out.symm, hw.out⟩
  · have HR := Lib.hid (show lft l (LfsSz zs) = -1 by refine lft_no ?_; unfold LfsSz; omega)
    have e2 : decide (l - (m : Int) < 0) = true := by simp; omega
    clear hv
    go_enter Tryd.func10, Tryd.ntmps10
    go_wp2
    go_ret
    exact ⟨ret_int HR.out.symm, Below.refl _ _⟩
theorem infoLfs : (Tryd.prog.info? 45).map (fun i => (i.zero, i.size, i.bytes)) = some (some (.agg #[.string ⟨#[]⟩, .string ⟨#[]⟩, .int .i64 0, .string ⟨#[]⟩, .int .i64 0, .int .i64 0, .int .i64 0, .int .i64 0, .slice none 0 0]), 9, 112) := by kernel_rfl
theorem makeLfs (n : Nat) (hn : n ≤ 1048576) (w : World) : (Instr.makeSlice 27 (.int .i64 (n : Int)) (.int .i64 (n : Int))).run Tryd.prog w = .ok (.slice (some ⟨w.heap.size, 0, none⟩) n n) (w.alloc (.cells (madeCells #[.string ⟨#[]⟩, .string ⟨#[]⟩, .int .i64 0, .string ⟨#[]⟩, .int .i64 0, .int .i64 0, .int .i64 0, .int .i64 0, .slice none 0 0] (n * 9)) 45)) := by
  obtain ⟨i0, hi, hz0, hz1, hz2⟩ := info_parts infoLfs
  have h := run_make (P := Tryd.prog) w 27 45 i0 _ Tryd.underlying27 hi hz0 .i64 .i64 n n (by omega) (by omega) (by rw [hz2]; omega) (by omega)
  rw [hz1, show (Value.agg #[.string ⟨#[]⟩, .string ⟨#[]⟩, .int .i64 0, .string ⟨#[]⟩, .int .i64 0, .int .i64 0, .int .i64 0, .int .i64 0, .slice none 0 0]).cells = #[.string ⟨#[]⟩, .string ⟨#[]⟩, .int .i64 0, .string ⟨#[]⟩, .int .i64 0, .int .i64 0, .int .i64 0, .int .i64 0, .slice none 0 0] from rfl] at h
  simpa using h
theorem Lfs_step {zc vs : Nat → Value} {k : Nat} {x0 x1 x2 x3 x4 x5 x6 x7 x8 : Value} (j : Nat) :
    (if j = k * 9 + 8 then x8 else if j = k * 9 + 7 then x7 else if j = k * 9 + 6 then x6 else if j = k * 9 + 5 then x5 else if j = k * 9 + 4 then x4 else if j = k * 9 + 3 then x3 else if j = k * 9 + 2 then x2 else if j = k * 9 + 1 then x1 else if j = k * 9 then x0 else rwF 9 zc vs k j) = rwF 9 zc (fun i => if i = k then .agg #[x0, x1, x2, x3, x4, x5, x6, x7, x8] else vs i) (k + 1) j := by
  by_cases h8 : j = k * 9 + 8
  · subst h8
    rw [if_pos rfl]
    exact (rwF_new (m := 9) (k := k) (q := 8) (zc := zc) (vs := vs) (v := .agg #[x0, x1, x2, x3, x4, x5, x6, x7, x8]) (by omega)).symm
  rw [if_neg h8]
  by_cases h7 : j = k * 9 + 7
  · subst h7
    rw [if_pos rfl]
    exact (rwF_new (m := 9) (k := k) (q := 7) (zc := zc) (vs := vs) (v := .agg #[x0, x1, x2, x3, x4, x5, x6, x7, x8]) (by omega)).symm
  rw [if_neg h7]
  by_cases h6 : j = k * 9 + 6
  · subst h6
    rw [if_pos rfl]
    exact (rwF_new (m := 9) (k := k) (q := 6) (zc := zc) (vs := vs) (v := .agg #[x0, x1, x2, x3, x4, x5, x6, x7, x8]) (by omega)).symm
  rw [if_neg h6]
  by_cases h5 : j = k * 9 + 5
  · subst h5
    rw [if_pos rfl]
    exact (rwF_new (m := 9) (k := k) (q := 5) (zc := zc) (vs := vs) (v := .agg #[x0, x1, x2, x3, x4, x5, x6, x7, x8]) (by omega)).symm
  rw [if_neg h5]
  by_cases h4 : j = k * 9 + 4
  · subst h4
    rw [if_pos rfl]
    exact (rwF_new (m := 9) (k := k) (q := 4) (zc := zc) (vs := vs) (v := .agg #[x0, x1, x2, x3, x4, x5, x6, x7, x8]) (by omega)).symm
  rw [if_neg h4]
  by_cases h3 : j = k * 9 + 3
  · subst h3
    rw [if_pos rfl]
    exact (rwF_new (m := 9) (k := k) (q := 3) (zc := zc) (vs := vs) (v := .agg #[x0, x1, x2, x3, x4, x5, x6, x7, x8]) (by omega)).symm
  rw [if_neg h3]
  by_cases h2 : j = k * 9 + 2
  · subst h2
    rw [if_pos rfl]
    exact (rwF_new (m := 9) (k := k) (q := 2) (zc := zc) (vs := vs) (v := .agg #[x0, x1, x2, x3, x4, x5, x6, x7, x8]) (by omega)).symm
  rw [if_neg h2]
  by_cases h1 : j = k * 9 + 1
  · subst h1
    rw [if_pos rfl]
    exact (rwF_new (m := 9) (k := k) (q := 1) (zc := zc) (vs := vs) (v := .agg #[x0, x1, x2, x3, x4, x5, x6, x7, x8]) (by omega)).symm
  rw [if_neg h1]
  by_cases h0 : j = k * 9
  · subst h0
    rw [if_pos rfl]
    exact (rwF_new (m := 9) (k := k) (q := 0) (zc := zc) (vs := vs) (v := .agg #[x0, x1, x2, x3, x4, x5, x6, x7, x8]) (by omega)).symm
  rw [if_neg h0]
  exact (rwF_same (by omega) (fun q hq => by omega)).symm
theorem LfO.lower {lo lo' : Nat} {w : World} {v : Value} {z : Lf} (h : LfO lo w v z) (hl : lo' ≤ lo) : LfO lo' w v z := by
  obtain ⟨og6, oh6, h0, hs, o0_0, o1_0, o2_0, o3_0, o4_0, o5_0, o6_0, o6_1, o6_2, o6_3⟩ := h.out
  exact ⟨og6, oh6, h0, hs, o0_0, o1_0, o2_0, o3_0, o4_0, o5_0, Nat.le_trans hl o6_0, o6_1, o6_2, o6_3⟩
theorem LfO.set {lo : Nat} {w : World} {v : Value} {z : Lf} (h : LfO lo w v z) (a : Addr) (u : Value) (ha : a.block < lo) : LfO lo (w.setCell a u) v z := by
  obtain ⟨og6, oh6, h0, hs, o0_0, o1_0, o2_0, o3_0, o4_0, o5_0, o6_0, o6_1, o6_2, o6_3⟩ := h.out
  exact ⟨og6, oh6, h0, hs, o0_0, o1_0, o2_0, o3_0, o4_0, o5_0, o6_0, o6_1, by rw [World.size_setCell]; exact o6_2, row_set o6_3 _ _ (by omega)⟩
theorem LfO.size {lo : Nat} {w : World} {v : Value} {z : Lf} (h : LfO lo w v z) : v.cells.size = 9 := by
  obtain ⟨og6, oh6, rfl, hs, o0_0, o1_0, o2_0, o3_0, o4_0, o5_0, o6_0, o6_1, o6_2, o6_3⟩ := h.out
  rfl
/-- A copy of a law's own: the structs lie in a block, what they lead to behind it. -/
def LfsO (lo : Nat) (w : World) (b : Nat) (zs : List Lf) : Prop := lo ≤ b ∧ ∃ vs : Nat → Value, w.rowIs b 45 (zs.length * 9) (rwF 9 (fun q => (#[.string ⟨#[]⟩, .string ⟨#[]⟩, .int .i64 0, .string ⟨#[]⟩, .int .i64 0, .int .i64 0, .int .i64 0, .int .i64 0, .slice none 0 0] : Array Value).getD q (.bool false)) vs zs.length) ∧ ∀ j, j < zs.length → LfO (b + 1) w (vs j) (zs.getD j lf0)
theorem LfsO.below {lo : Nat} {w w' : World} {b : Nat} {zs : List Lf} (h : LfsO lo w b zs) (hb : Below w.heap.size w w') : LfsO lo w' b zs := by
  obtain ⟨h1, vs, h2, h3⟩ := h
  exact ⟨h1, vs, rowIs_below h2 hb, fun j hj => (h3 j hj).below hb⟩
set_option maxRecDepth 100000 in
set_option maxHeartbeats 4000000 in
theorem toLfs_own (ao : Option Addr) (m c : Nat) (zs : List Lf) (w : World) (hm : LfsSz zs ≤ 1048576) (hv : LfsL w ao m zs) :
    Calls Tryd.prog 12 #[.slice ao m c] w fun e w' => ∃ b, e = .returned (.slice (some ⟨b, 0, none⟩) m m) ∧ LfsO w.heap.size w' b zs ∧ Below w.heap.size w w' := by
  have HV := Lib.hid hv
  have HZ := Lib.hid hv.1
  have HM := Lib.hid hm
  have hm1 : m ≤ 1048576 := by have := hv.1; unfold LfsSz at hm; omega
  clear hv hm
  have hmk := makeLfs m hm1
  obtain ⟨ZC, hZC⟩ : ∃ f, (fun q => (#[.string ⟨#[]⟩, .string ⟨#[]⟩, .int .i64 0, .string ⟨#[]⟩, .int .i64 0, .int .i64 0, .int .i64 0, .int .i64 0, .slice none 0 0] : Array Value).getD q (.bool false)) = f := ⟨_, rfl⟩
  have HZC := Lib.hid hZC
  clear hZC
  go_enter Tryd.func12, Tryd.ntmps12
  go_wp2
  clear hmk
  go_loopw [4] (fun iv wr => ∃ k : Nat, k ≤ m ∧ iv = .int .i64 k ∧ Hid (∃ vs : Nat → Value, wr.rowIs w.heap.size 45 (m * 9) (rwF 9 ZC vs k) ∧ ∀ j, j < k → LfO (w.heap.size + 1) wr (vs j) (zs.getD j lf0)) ∧ Hid (Below w.heap.size w wr)) (fun i _ => m - (intOf i).toNat)
  case atStart => exact ⟨0, by omega, rfl, Lib.hid ⟨fun _ => .bool false, by rw [← HZC.out]; exact made_rw w m 9 (by omega) _ rfl _ _, fun j hj => by omega⟩, Lib.hid (one_alloc _)⟩
  case round =>
    obtain ⟨k, hk, rfl, hr, hb⟩ := hrel
    by_cases hlt : k < m
    · obtain ⟨b, off, rfl, hcs⟩ := (HV.out.below hb.out).2.resolve_left (by omega)
      obtain ⟨v, hvl, ha⟩ := hcs k hlt
      have HVL := Lib.hid hvl
      have HLN := Lib.hid (Lfs_le HM.out (j := k) (by have := HZ.out; omega))
      obtain ⟨ao6, n6, c6, rfl, _, _, _, _, _, _, _, _⟩ := hvl.out
      have c0 : wr.cell? ⟨b, off + k * 9, none⟩ = some _ := ha.at 0 rfl
      have c1 : wr.cell? ⟨b, off + k * 9 + 1, none⟩ = some _ := ha.at 1 rfl
      have c2 : wr.cell? ⟨b, off + k * 9 + 2, none⟩ = some _ := ha.at 2 rfl
      have c3 : wr.cell? ⟨b, off + k * 9 + 3, none⟩ = some _ := ha.at 3 rfl
      have c4 : wr.cell? ⟨b, off + k * 9 + 4, none⟩ = some _ := ha.at 4 rfl
      have c5 : wr.cell? ⟨b, off + k * 9 + 5, none⟩ = some _ := ha.at 5 rfl
      have c6 : wr.cell? ⟨b, off + k * 9 + 6, none⟩ = some _ := ha.at 6 rfl
      have c7 : wr.cell? ⟨b, off + k * 9 + 7, none⟩ = some _ := ha.at 7 rfl
      have c8 : wr.cell? ⟨b, off + k * 9 + 8, none⟩ = some _ := ha.at 8 rfl
      have hbw := ha.1
      obtain ⟨vs, hrow, hown⟩ := hr.out
      have HO := Lib.hid hown
      have hgw := hrow.lt
      have HROW := Lib.hid hrow
      obtain ⟨z, hz⟩ : ∃ z, zs.getD k lf0 = z := ⟨_, rfl⟩
      have HZK := Lib.hid hz
      clear hcs hvl ha hrow hown hr
      rw [hz] at HVL HLN c0 c1 c2 c3 c4 c5 c6 c7 c8
      clear hz
      go_wp2_with fail
      refine (toLf_own _ z _ HLN.out HVL.out).mono ?_
      rintro e' w1 ⟨v', rfl, ho, hb1⟩
      have HO1 := Lib.hid ho
      obtain ⟨og6, oh6, rfl, _, _, _, _, _, _, _, _, _, _, _⟩ := ho.out
      have HB1 := Lib.hid hb1
      have hr1 := rowIs_below HROW.out hb1
      obtain ⟨u0, d0⟩ : ∃ u, w1.cell? ⟨w.heap.size, k * 9, none⟩ = some u := ⟨_, hr1.cell (by omega)⟩
      obtain ⟨u1, d1⟩ : ∃ u, w1.cell? ⟨w.heap.size, k * 9 + 1, none⟩ = some u := ⟨_, hr1.cell (by omega)⟩
      obtain ⟨u2, d2⟩ : ∃ u, w1.cell? ⟨w.heap.size, k * 9 + 2, none⟩ = some u := ⟨_, hr1.cell (by omega)⟩
      obtain ⟨u3, d3⟩ : ∃ u, w1.cell? ⟨w.heap.size, k * 9 + 3, none⟩ = some u := ⟨_, hr1.cell (by omega)⟩
      obtain ⟨u4, d4⟩ : ∃ u, w1.cell? ⟨w.heap.size, k * 9 + 4, none⟩ = some u := ⟨_, hr1.cell (by omega)⟩
      obtain ⟨u5, d5⟩ : ∃ u, w1.cell? ⟨w.heap.size, k * 9 + 5, none⟩ = some u := ⟨_, hr1.cell (by omega)⟩
      obtain ⟨u6, d6⟩ : ∃ u, w1.cell? ⟨w.heap.size, k * 9 + 6, none⟩ = some u := ⟨_, hr1.cell (by omega)⟩
      obtain ⟨u7, d7⟩ : ∃ u, w1.cell? ⟨w.heap.size, k * 9 + 7, none⟩ = some u := ⟨_, hr1.cell (by omega)⟩
      obtain ⟨u8, d8⟩ : ∃ u, w1.cell? ⟨w.heap.size, k * 9 + 8, none⟩ = some u := ⟨_, hr1.cell (by omega)⟩
      have f0 := hr1.frozen (k * 9)
      have f1 := hr1.frozen (k * 9 + 1)
      have f2 := hr1.frozen (k * 9 + 2)
      have f3 := hr1.frozen (k * 9 + 3)
      have f4 := hr1.frozen (k * 9 + 4)
      have f5 := hr1.frozen (k * 9 + 5)
      have f6 := hr1.frozen (k * 9 + 6)
      have f7 := hr1.frozen (k * 9 + 7)
      have f8 := hr1.frozen (k * 9 + 8)
      have HR1 := Lib.hid hr1
      have hw1 := hb1.size
      clear hb1 hr1 ho c0 c1 c2 c3 c4 c5 c6 c7 c8
      go_wp2
      go_roundw
      case rel =>
        refine ⟨k + 1, by omega, by go_num, Lib.hid ⟨fun i => if i = k then .agg #[.string z.id, .string z.fl, .int .i64 z.nu, .string z.ve.1, .int .i64 z.ve.2.1, .int .i64 z.ve.2.2, .int .i64 z.wd, .int .i64 z.ln, .slice (some ⟨og6, 0, none⟩) z.df.length z.df.length] else vs i, (((((((((HR1.out.set (k * 9) _).set (k * 9 + 1) _).set (k * 9 + 2) _).set (k * 9 + 3) _).set (k * 9 + 4) _).set (k * 9 + 5) _).set (k * 9 + 6) _).set (k * 9 + 7) _).set (k * 9 + 8) _).congr (fun j _ => Lfs_step j), fun j hj => ?_⟩, Lib.hid ((((((((((bseq hb.out HB1.out).setCell (Nat.le_refl _) _).setCell (Nat.le_refl _) _).setCell (Nat.le_refl _) _).setCell (Nat.le_refl _) _).setCell (Nat.le_refl _) _).setCell (Nat.le_refl _) _).setCell (Nat.le_refl _) _).setCell (Nat.le_refl _) _).setCell (Nat.le_refl _) _)⟩
        by_cases hjk : j = k
        · subst hjk
          dsimp only
          rw [if_pos rfl, HZK.out]
          exact (((((((((HO1.out.lower (by omega)).set _ _ (by simp)).set _ _ (by simp)).set _ _ (by simp)).set _ _ (by simp)).set _ _ (by simp)).set _ _ (by simp)).set _ _ (by simp)).set _ _ (by simp)).set _ _ (by simp)
        · dsimp only
          rw [if_neg hjk]
          exact ((((((((((HO.out j (by omega)).below HB1.out).set _ _ (by simp)).set _ _ (by simp)).set _ _ (by simp)).set _ _ (by simp)).set _ _ (by simp)).set _ _ (by simp)).set _ _ (by simp)).set _ _ (by simp)).set _ _ (by simp)
      case measure => simp [intOf]; omega
    · obtain rfl : k = m := by omega
      go_wp2
      go_ret
      obtain ⟨vs, hrow, hown⟩ := hr.out
      rw [← HZC.out] at hrow
      have e := HZ.out
      subst e
      exact ⟨_, rfl, ⟨Nat.le_refl _, vs, hrow, hown⟩, hb.out⟩
/-- A slice at the start of a block, or an empty one. -/
def LfsV (w : World) (ao : Option Addr) (n : Nat) (zs : List Lf) : Prop := n = zs.length ∧ (n = 0 ∨ ∃ b, ao = some ⟨b, 0, none⟩ ∧ ∀ j, j < n → ∃ v, LfV w v (zs.getD j lf0) ∧ AtV w b (j * 9) v)
theorem LfsV.below {w w' : World} {ao : Option Addr} {n : Nat} {zs : List Lf} (h : LfsV w ao n zs) (hb : Below w.heap.size w w') : LfsV w' ao n zs :=
  ⟨h.1, h.2.imp id fun ⟨b, e, h1⟩ => ⟨b, e, fun j hj => by obtain ⟨v, q1, q2⟩ := h1 j hj; exact ⟨v, q1.below hb, q2.below hb⟩⟩⟩
theorem LfsO.view {lo : Nat} {w : World} {b : Nat} {zs : List Lf} (h : LfsO lo w b zs) : LfsV w (some ⟨b, 0, none⟩) zs.length zs := by
  obtain ⟨h1, vs, h2, h3⟩ := h
  refine ⟨rfl, Or.inr ⟨b, rfl, fun j hj => ⟨vs j, (h3 j hj).view, h2.lt, fun i hi => ?_⟩⟩⟩
  rw [(h3 j hj).size] at hi
  have h4 := h2.cell (i := j * 9 + i) (by
    have := Nat.mul_le_mul_right 9 (show j + 1 ≤ zs.length by omega)
    omega)
  rw [rwF_at hi hj] at h4
  rw [h4, Array.getElem?_eq_getElem (by rw [(h3 j hj).size]; exact hi), Array.getD, dif_pos (by rw [(h3 j hj).size]; exact hi)]
  rfl
theorem LfsO.viewN {lo n : Nat} {w : World} {b : Nat} {zs : List Lf} (hz : n = zs.length) (h : LfsO lo w b zs) : LfsV w (some ⟨b, 0, none⟩) n zs := hz ▸ h.view
set_option maxRecDepth 100000 in
set_option maxHeartbeats 4000000 in
theorem eqLfs_same (ao bo : Option Addr) (m c d : Nat) (zs : List Lf) (w : World) (hm : m ≤ 1048576) (ha : LfsV w ao m zs) (hb : LfsV w bo m zs) :
    Calls Tryd.prog 15 #[.slice ao m c, .slice bo m d] w fun e w' => e = .returned (.bool true) ∧ Below w.heap.size w w' := by
  have HA := Lib.hid ha
  have HB := Lib.hid hb
  clear ha hb
  go_enter Tryd.func15, Tryd.ntmps15
  go_wp2
  go_loopw [5] (fun iv wr => ∃ k : Nat, k ≤ m ∧ iv = .int .i64 k ∧ Hid (Below w.heap.size w wr)) (fun i _ => m - (intOf i).toNat)
  case atStart => exact ⟨0, by omega, rfl, Lib.hid (Below.refl _ _)⟩
  case round =>
    obtain ⟨k, hk, rfl, hw⟩ := hrel
    by_cases hlt : k < m
    · obtain ⟨a, rfl, hca⟩ := (HA.out.below hw.out).2.resolve_left (by omega)
      obtain ⟨b, rfl, hcb⟩ := (HB.out.below hw.out).2.resolve_left (by omega)
      obtain ⟨va, hva, ha⟩ := hca k hlt
      obtain ⟨vb, hvb, hb⟩ := hcb k hlt
      have HVA := Lib.hid hva
      have HVB := Lib.hid hvb
      generalize zs.getD k lf0 = z at *
      obtain ⟨ao6a, n6a, c6a, rfl, _, _, _, _, _, _, _, _, _⟩ := hva.out
      obtain ⟨ao6b, n6b, c6b, rfl, _, _, _, _, _, _, _, _, _⟩ := hvb.out
      have c0 : wr.cell? ⟨a, k * 9, none⟩ = some _ := ha.at 0 rfl
      have c1 : wr.cell? ⟨a, k * 9 + 1, none⟩ = some _ := ha.at 1 rfl
      have c2 : wr.cell? ⟨a, k * 9 + 2, none⟩ = some _ := ha.at 2 rfl
      have c3 : wr.cell? ⟨a, k * 9 + 3, none⟩ = some _ := ha.at 3 rfl
      have c4 : wr.cell? ⟨a, k * 9 + 4, none⟩ = some _ := ha.at 4 rfl
      have c5 : wr.cell? ⟨a, k * 9 + 5, none⟩ = some _ := ha.at 5 rfl
      have c6 : wr.cell? ⟨a, k * 9 + 6, none⟩ = some _ := ha.at 6 rfl
      have c7 : wr.cell? ⟨a, k * 9 + 7, none⟩ = some _ := ha.at 7 rfl
      have c8 : wr.cell? ⟨a, k * 9 + 8, none⟩ = some _ := ha.at 8 rfl
      have d0 : wr.cell? ⟨b, k * 9, none⟩ = some _ := hb.at 0 rfl
      have d1 : wr.cell? ⟨b, k * 9 + 1, none⟩ = some _ := hb.at 1 rfl
      have d2 : wr.cell? ⟨b, k * 9 + 2, none⟩ = some _ := hb.at 2 rfl
      have d3 : wr.cell? ⟨b, k * 9 + 3, none⟩ = some _ := hb.at 3 rfl
      have d4 : wr.cell? ⟨b, k * 9 + 4, none⟩ = some _ := hb.at 4 rfl
      have d5 : wr.cell? ⟨b, k * 9 + 5, none⟩ = some _ := hb.at 5 rfl
      have d6 : wr.cell? ⟨b, k * 9 + 6, none⟩ = some _ := hb.at 6 rfl
      have d7 : wr.cell? ⟨b, k * 9 + 7, none⟩ = some _ := hb.at 7 rfl
      have d8 : wr.cell? ⟨b, k * 9 + 8, none⟩ = some _ := hb.at 8 rfl
      have hbw := hb.1
      have haw := ha.1
      clear hca hcb ha hb hva hvb
      go_wp2
      refine wp_region_below (by kernel_rfl) (by kernel_rfl) ?_
      repeat (first | (refine wq_skip ?_ ?_; (focus (go_simp; (first | done | (simp [undef]; done)))); (try simp only [Act.put, List.setIfInBounds_toArray, List.set_cons_zero, List.set_cons_succ])) | (refine wq_val ?_ ?_; (focus (go_simp; done)); apply Exists.intro; refine ⟨fun w1 hw1 => ?_, ?_⟩; (obtain ⟨hc, hf⟩ := bcell hw1; clear hw1; go_simp; (first | done | with_reducible rfl | (with_reducible exact eql2 _ _ _) | (with_reducible exact neq2 _ _ _))); (try simp only [Act.put, List.setIfInBounds_toArray, List.set_cons_zero, List.set_cons_succ])) | (refine wq_call 26 ?_ ?_; (focus (go_simp; done)); apply Exists.intro; refine ⟨fun w1 hw1 => ?_, ?_⟩; (focus (clear hw1; go_simp; (first | done | with_reducible rfl))); apply Exists.intro; refine ⟨fun w1 hw1 => ?_, ?_⟩; (focus (exact calls_below hw1 (eqLf_same _ _ z _ (HVA.out.below hw1) (HVB.out.below hw1)); done)); (try simp only [Act.put, List.setIfInBounds_toArray, List.set_cons_zero, List.set_cons_succ])))
      refine wq_nil ?_
      intro w1 hb1
      have HB1 := Lib.hid hb1
      clear hb1
      go_wp2
      go_roundw
      case rel => exact ⟨k + 1, by omega, by go_num, Lib.hid (bseq hw.out HB1.out)⟩
      case measure => simp [intOf]; omega
    · go_wp2
      go_ret
      exact ⟨rfl, hw.out⟩
end Go.Proofs.YthocpiklbcahgaaDoor
