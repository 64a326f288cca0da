/- Marks that a law writes into a drawing of its own. -/
import Derived.Test.YtfhlafnjccoocaaGreatK11
namespace Go.Proofs.YtfhlafnjccoocaaGreat
open Go.ChangeShapes Go.WideShapes Go.ChangeAt Go.RowKit
set_option linter.unusedVariables false
set_option linter.unusedSimpArgs false

/-- Only blocks from lo on and ahead of hi have turned, and new ones. -/
structure Btw (lo hi : Nat) (w w' : World) : Prop where
  os : w'.os = w.os
  tape : w'.tape = w.tape
  output : w'.output = w.output
  size : w.heap.size ≤ w'.heap.size
  block : ∀ j, j < w.heap.size → ¬ (lo ≤ j ∧ j < hi) → w'.heap[j]? = w.heap[j]?
theorem Btw.refl (lo hi : Nat) (w : World) : Btw lo hi w w := ⟨rfl, rfl, rfl, Nat.le_refl _, fun _ _ _ => rfl⟩
theorem Btw.trans {lo hi : Nat} {a b c : World} (h : Btw lo hi a b) (k : Btw lo hi b c) : Btw lo hi a c :=
  ⟨k.os.trans h.os, k.tape.trans h.tape, k.output.trans h.output, Nat.le_trans h.size k.size, fun j hj hn => (k.block j (Nat.lt_of_lt_of_le hj h.size) hn).trans (h.block j hj hn)⟩
theorem Btw.of_below {lo hi : Nat} {a b : World} (h : Below a.heap.size a b) : Btw lo hi a b := ⟨h.os, h.tape, h.output, h.size, fun j hj _ => h.block j hj⟩
theorem Btw.of_grown {lo hi r : Nat} {a b : World} (h : a.grownBy b (some r)) (h1 : lo ≤ r) (h2 : r < hi) : Btw lo hi a b :=
  ⟨h.os, h.tape, h.output, h.size, fun j hj hn => h.block j hj (fun e => hn (by cases e; exact ⟨h1, h2⟩))⟩
theorem Btw.below {lo hi : Nat} {w0 a b : World} (h : Btw lo hi a b) (h0 : Below w0.heap.size w0 a) (hl : w0.heap.size ≤ lo) : Below w0.heap.size w0 b :=
  ⟨h.os.trans h0.os, h.tape.trans h0.tape, h.output.trans h0.output, Nat.le_trans h0.size h.size, fun j hj => (h.block j (Nat.lt_of_lt_of_le hj h0.size) (by omega)).trans (h0.block j hj)⟩
theorem Btw.own {lo hi : Nat} {a b : World} {base e size n : Nat} {v : Value} {xs : List Value} (h : Btw lo hi a b) (ho : a.ownsRow base e size v n xs) (hn : ∀ k, v.ownBlock = some k → ¬ (lo ≤ k ∧ k < hi)) : b.ownsRow base e size v n xs := by
  rcases ho with ⟨h1, h2 | ⟨g, cap, cur, h2, h3, h4, h5⟩⟩
  · exact ⟨h1, Or.inl h2⟩
  · refine ⟨h1, Or.inr ⟨g, cap, cur, h2, h3, (h.block g (Array.getElem?_eq_some_iff.1 h4).1 (hn g (by rw [h2]; rfl))).trans h4, h5⟩⟩
theorem own_parts {w : World} {base e r n : Nat} {xs : List Value} (h : w.ownsRow base e 1 (.slice (some ⟨r, 0, none⟩) n n) n xs) : base ≤ r ∧ ∃ cur, w.heap[r]? = some (.cells cur e (0, 0)) ∧ cur.size = n := by
  rcases h with ⟨h1, ⟨h2, _⟩ | ⟨g, cap, cur, h2, h3, h4, h5, h6, h7, h8⟩⟩
  · cases h2
  · cases h2
    exact ⟨h3, cur, h4, by omega⟩
/-- Faces that can be written. -/
structure FM (lo hi : Nat) (w : World) (b : Nat) (fs : List Fc) : Prop where
  ge : lo ≤ b
  lt : b < hi
  out : ∃ cur, w.heap[b]? = some (.cells cur 46 (0, 0)) ∧ cur.size = fs.length * 2 ∧ ∀ j, j < fs.length → ∃ r xs, cur[j * 2 + 1]? = some (.slice (some ⟨r, 0, none⟩) (ringL fs j) (ringL fs j)) ∧ r ≠ b ∧ r < hi ∧ w.ownsRow lo 2 1 (.slice (some ⟨r, 0, none⟩) (ringL fs j) (ringL fs j)) (ringL fs j) xs
theorem FM.of {lo : Nat} {w : World} {b : Nat} {fs : List Fc} (h : FO lo w b fs) : FM lo w.heap.size w b fs := by
  obtain ⟨h1, cur, h2, h3, h4⟩ := h
  refine ⟨h1, (Array.getElem?_eq_some_iff.1 h2).1, cur, h2, h3, fun j hj => ?_⟩
  obtain ⟨_, _, r, q3, q4, q5⟩ := h4 j hj
  exact ⟨r, _, q3, q4, (q5.lt r rfl).2, q5⟩
theorem FM.below {lo hi : Nat} {w w' : World} {b : Nat} {fs : List Fc} (h : FM lo hi w b fs) (hb : Below w.heap.size w w') : FM lo hi w' b fs := by
  obtain ⟨h1, h2, cur, h3, h4, h5⟩ := h
  refine ⟨h1, h2, cur, (hb.block b (Array.getElem?_eq_some_iff.1 h3).1).trans h3, h4, fun j hj => ?_⟩
  obtain ⟨r, xs, q1, q2, q3, q4⟩ := h5 j hj
  exact ⟨r, xs, q1, q2, q3, own_below q4 hb⟩
theorem FM.name {lo hi : Nat} {w : World} {b k : Nat} {fs : List Fc} (h : FM lo hi w b fs) (v : Value) : FM lo hi (w.setCell ⟨b, k * 2, none⟩ v) b fs := by
  obtain ⟨h1, h2, cur, h3, h4, h5⟩ := h
  refine ⟨h1, h2, _, heap_setCell_same _ _ _ _ _ _ h3, by simpa using h4, fun j hj => ?_⟩
  obtain ⟨r, xs, q1, q2, q3, q4⟩ := h5 j hj
  refine ⟨r, xs, ?_, q2, q3, q4.kept (grown_setC _ _ _) (Or.inr (fun e => q2 (by simpa [Value.ownBlock] using e)))⟩
  rw [Array.getElem?_setIfInBounds_ne (by omega)]
  exact q1
theorem FM.ring {lo hi : Nat} {w w' : World} {b k r : Nat} {fs : List Fc} {ys : List Value} (h : FM lo hi w b fs) (hrb : r ≠ b) (hr : ∃ n xs, w.ownsRow lo 2 1 (.slice (some ⟨r, 0, none⟩) n n) n xs ∧ w'.ownsRow lo 2 1 (.slice (some ⟨r, 0, none⟩) n n) n ys) (hg : w.grownBy w' (some r)) : FM lo hi w' b fs := by
  obtain ⟨h1, h2, cur, h3, h4, h5⟩ := h
  obtain ⟨n, xs0, o1, o2⟩ := hr
  refine ⟨h1, h2, cur, (hg.block b (Array.getElem?_eq_some_iff.1 h3).1 (fun e => hrb (by cases e; rfl))).trans h3, h4, fun j hj => ?_⟩
  obtain ⟨r', xs, q1, q2, q3, q4⟩ := h5 j hj
  by_cases e : r' = r
  · subst e
    obtain ⟨_, c1, p1, p2⟩ := own_parts o1
    obtain ⟨_, c2, p3, p4⟩ := own_parts q4
    rw [p1] at p3
    cases p3
    obtain rfl : n = ringL fs j := by omega
    exact ⟨r', ys, q1, q2, q3, o2⟩
  · exact ⟨r', xs, q1, q2, q3, q4.kept hg (Or.inr (fun e' => e (by simpa [Value.ownBlock] using e')))⟩
theorem FM.at {lo hi : Nat} {w : World} {b k : Nat} {fs : List Fc} (h : FM lo hi w b fs) (hk : k < fs.length) : ∃ r xs x, b < w.heap.size ∧ w.cell? ⟨b, k * 2, none⟩ = some x ∧ w.frozen? ⟨b, k * 2, none⟩ = false ∧ w.cell? ⟨b, k * 2 + 1, none⟩ = some (.slice (some ⟨r, 0, none⟩) (ringL fs k) (ringL fs k)) ∧ r ≠ b ∧ r < hi ∧ w.ownsRow lo 2 1 (.slice (some ⟨r, 0, none⟩) (ringL fs k) (ringL fs k)) (ringL fs k) xs := by
  obtain ⟨h1, h2, cur, h3, h4, h5⟩ := h
  obtain ⟨r, xs, q1, q2, q3, q4⟩ := h5 k hk
  obtain ⟨x, hx⟩ := arr_some (cur := cur) (j := k * 2) (by omega)
  exact ⟨r, xs, x, (Array.getElem?_eq_some_iff.1 h3).1, (cell_of_arr h3 hx).1, (cell_of_arr h3 hx).2, (cell_of_arr h3 q1).1, q2, q3, q4⟩
def fcMk (fs : List Fc) (j : Nat) : Nat := 1 + ringL fs j
set_option maxRecDepth 100000 in
set_option maxHeartbeats 4000000 in
theorem markFcs_any (lo hi b m k0 : Nat) (fs : List Fc) (w : World) (hm : m = fs.length) (h1 : 1 ≤ k0) (hk : k0 + sumN (fcMk fs) m ≤ 900000000) (hm1 : m ≤ 1048576) (hr : ∀ j, j < m → ringL fs j ≤ 1048576) (h : FM lo hi w b fs) :
    Calls Tryz.prog 25 #[.slice (some ⟨b, 0, none⟩) m m, .int .i64 (k0 : Nat)] w fun e w' => e = .returned (.int .i64 ((k0 + sumN (fcMk fs) m : Nat) : Int)) ∧ Btw lo hi w w' := by
  have HM := Lib.hid hm
  have H := Lib.hid h
  have HL := Lib.hid (fun k (h : k ≤ m) => sumN_le (fcMk fs) h)
  have HR := Lib.hid hr
  clear h hm hr
  go_enter Tryz.func25, Tryz.ntmps25
  go_wp2
  go_loopw [5, 1] (fun iv kv wr => ∃ k K : Nat, k ≤ m ∧ iv = .int .i64 k ∧ kv = .int .i64 K ∧ Hid (K = k0 + sumN (fcMk fs) k) ∧ Hid (FM lo hi wr b fs) ∧ Hid (Btw lo hi w wr)) (fun i _ _ => m - (intOf i).toNat)
  case atStart => exact ⟨0, k0, by omega, rfl, rfl, Lib.hid rfl, H, Lib.hid (Btw.refl _ _ _)⟩
  case round =>
    obtain ⟨k, K, hk', rfl, rfl, hK, hf, hb⟩ := hrel
    by_cases hlt : k < m
    · have hbd := HL.out (k + 1) (by omega)
      have hst : sumN (fcMk fs) (k + 1) = sumN (fcMk fs) k + (1 + ringL fs k) := rfl
      have hK' := hK.out
      have hrl := HR.out k hlt
      have HN := Lib.hid (show K + 1 + ringL fs k = k0 + sumN (fcMk fs) (k + 1) by omega)
      have y1 : IntKind.i64.wrap ((K : Int) + 1) = (K : Int) + 1 := IntWalk.i64_in _ (by omega)
      have hK1 : 1 ≤ K := by omega
      have hK2 : K + 1 + 1048576 ≤ 1000000000 := by omega
      clear hst hK' hbd
      go_wp2_with fail
      refine (Mk.markText_any K _ hK1 (by omega)).mono ?_
      rintro e w1 ⟨rfl, hb1⟩
      have HF1 := Lib.hid (hf.out.below hb1)
      have HB1 := Lib.hid hb1
      obtain ⟨r, xs, x, hbw, x0, z0, x1, _, _, _⟩ := HF1.out.at (k := k) (by have := HM.out; omega)
      have HF2 := Lib.hid (HF1.out.name (k := k) (.string (Mk.tb (Mk.mtL K))))
      have hbw2 : b < (w1.setCell ⟨b, k * 2, none⟩ (.string (Mk.tb (Mk.mtL K)))).heap.size := by simpa using hbw
      obtain ⟨r', xs', x', _, _, _, x1', hrb, hrh, ho⟩ := HF2.out.at (k := k) (by have := HM.out; omega)
      have HO := Lib.hid ho
      have HRB := Lib.hid (And.intro hrb hrh)
      clear hb1 x1 ho hrb hrh
      go_wp2_with fail
      refine (markI_any lo (ringL fs k) _ _ xs' _ hrl (by omega) (by omega) HO.out).mono ?_
      rintro e w2 ⟨rfl, hg, ho2⟩
      have HF3 := Lib.hid (HF2.out.ring (k := k) HRB.out.1 ⟨_, _, HO.out, ho2⟩ hg)
      have HB3 := Lib.hid (((hb.out.trans (Btw.of_below HB1.out)).trans (Btw.of_grown (grown_setC w1 ⟨b, k * 2, none⟩ (.string (Mk.tb (Mk.mtL K)))) HF1.out.ge HF1.out.lt)).trans (Btw.of_grown hg (HO.out.lt r' rfl).1 HRB.out.2))
      clear hg ho2 x0 z0 x1'
      go_wp2
      go_roundw
      case rel => exact ⟨k + 1, K + 1 + ringL fs k, by omega, by go_num, val_int (by omega), HN, HF3, HB3⟩
      case measure => simp [intOf]; omega
    · obtain rfl : k = m := by omega
      go_wp2
      go_ret
      exact ⟨ret_int (by rw [hK.out]), hb.out⟩
theorem own_partsP {w : World} {base e g n : Nat} {xs : List Value} (h : w.ownsRow base e 2 (.slice (some ⟨g, 0, none⟩) n n) n xs) : base ≤ g ∧ ∃ cur, w.heap[g]? = some (.cells cur e (0, 0)) := by
  rcases h with ⟨h1, ⟨h2, _⟩ | ⟨g', cap, cur, h2, h3, h4, h5⟩⟩
  · cases h2
  · cases h2
    exact ⟨h3, cur, h4⟩
theorem FM.other {lo hi : Nat} {w w' : World} {b p : Nat} {fs : List Fc} {cur : Array Value} (h : FM lo hi w b fs) (hp : w.heap[p]? = some (.cells cur 67 (0, 0))) (hg : w.grownBy w' (some p)) : FM lo hi w' b fs := by
  obtain ⟨h1, h2, cu, h3, h4, h5⟩ := h
  have hpb : p ≠ b := fun e => by subst e; rw [h3] at hp; cases hp
  refine ⟨h1, h2, cu, (hg.block b (Array.getElem?_eq_some_iff.1 h3).1 (fun e => hpb (by cases e; rfl))).trans h3, h4, fun j hj => ?_⟩
  obtain ⟨r, xs, q1, q2, q3, q4⟩ := h5 j hj
  refine ⟨r, xs, q1, q2, q3, q4.kept hg (Or.inr (fun e => ?_))⟩
  obtain ⟨_, c1, p1, _⟩ := own_parts q4
  have e' : r = p := by simpa [Value.ownBlock] using e
  subst e'
  rw [p1] at hp
  cases hp
/-- A drawing that can be written. -/
structure DX (lo hi : Nat) (w : World) (v : Value) (D : Drw) : Prop where
  out : ∃ p b, v = .agg #[.int .i64 D.wd, .int .i64 D.hg, .slice (some ⟨p, 0, none⟩) D.ps.length D.ps.length, .slice (some ⟨b, 0, none⟩) D.fs.length D.fs.length] ∧ dSz D ≤ 1048576 ∧ p < hi ∧ w.ownsRow lo 67 2 (.slice (some ⟨p, 0, none⟩) D.ps.length D.ps.length) D.ps.length (flatP D.ps) ∧ FM lo hi w b D.fs
theorem DX.of {lo : Nat} {w : World} {v : Value} {D : Drw} (h : DO lo w v D) : DX lo w.heap.size w v D := by
  obtain ⟨p, b, h1, h2, h3, h4, h5, h6⟩ := h.out
  exact ⟨p, b, h1, h4, (h5.lt p rfl).2, h5, FM.of h6⟩
theorem DX.below {lo hi : Nat} {w w' : World} {v : Value} {D : Drw} (h : DX lo hi w v D) (hb : Below w.heap.size w w') : DX lo hi w' v D := by
  obtain ⟨p, b, h1, h2, h3, h4, h5⟩ := h.out
  exact ⟨p, b, h1, h2, h3, own_below h4 hb, h5.below hb⟩
theorem fcMk_le (fs : List Fc) (k : Nat) : sumN (fcMk fs) k ≤ k + sumN (fcAt fs) k := by
  induction k with
  | zero => exact Nat.le_refl _
  | succ k ih =>
    have h1 : sumN (fcMk fs) (k + 1) = sumN (fcMk fs) k + (1 + ringL fs k) := rfl
    have h2 : sumN (fcAt fs) (k + 1) = sumN (fcAt fs) k + ((fs.getD k fc0).1.size + ringL fs k) := rfl
    omega
set_option maxRecDepth 100000 in
set_option maxHeartbeats 1000000 in
theorem markDr_any (lo hi : Nat) (v : Value) (D : Drw) (w : World) (h : DX lo hi w v D) :
    Calls Tryz.prog 10 #[v, .int .i64 1] w fun e w' => ∃ k : Nat, e = .returned (.int .i64 (k : Int)) ∧ (1 ≤ k ∧ k ≤ 5000000) ∧ Btw lo hi w w' := by
  obtain ⟨p, b, rfl, hs, hp, ho, hf⟩ := h.out
  have HO := Lib.hid ho
  have HF := Lib.hid hf
  have HP := Lib.hid hp
  have HS := Lib.hid hs
  have hfs : fsSz D.fs ≤ 1048576 := by unfold dSz at hs; omega
  have HFS := Lib.hid hfs
  have hn : D.ps.length ≤ 1048576 := by unfold dSz at hs; omega
  have hm : D.fs.length ≤ 1048576 := by unfold fsSz at hfs; omega
  have hbd : 1 + 2 * D.ps.length + sumN (fcMk D.fs) D.fs.length ≤ 5000000 := by have := fcMk_le D.fs D.fs.length; unfold fsSz at hfs; omega
  clear h hs hp ho hf hfs
  generalize hnn : D.ps.length = n at *
  generalize hmm : D.fs.length = m at *
  have HMM := Lib.hid hmm
  clear hnn hmm
  have e1 : (1 : Int) + 2 * (n : Int) = ((1 + 2 * n : Nat) : Int) := by omega
  have E1 := Lib.hid e1
  clear e1
  have hb0 := one_alloc (w := w) (.cells #[.int .i64 D.wd, .int .i64 D.hg, .slice (some ⟨p, 0, none⟩) n n, .slice (some ⟨b, 0, none⟩) m m] 33)
  have HB0 := Lib.hid hb0
  have HO1 := Lib.hid (own_below HO.out hb0)
  have HF1 := Lib.hid (HF.out.below hb0)
  clear hb0
  go_enter Tryz.func10, Tryz.ntmps10
  go_wp2_with fail
  refine (markP_any lo n 1 _ _ _ hn (by omega) (by omega) HO1.out).mono ?_
  rintro e w1 ⟨rfl, hg, ho1⟩
  rw [E1.out]
  obtain ⟨_, cu, hcu⟩ := own_partsP HO1.out
  have HF2 := Lib.hid (HF1.out.other hcu hg)
  have HT := Lib.hid ((Btw.of_below HB0.out).trans (Btw.of_grown hg (HO1.out.lt p rfl).1 HP.out))
  have c3 : w1.cell? ⟨w.heap.size, 3, none⟩ = some (.slice (some ⟨b, 0, none⟩) m m) := (hg.cell (a := ⟨w.heap.size, 3, none⟩) (by go_simp) (fun e => by
    have h1 : w.heap.size = p := by simpa [Value.ownBlock] using e
    have h2 := (HO.out.lt p rfl).2
    omega))
  have hz : w.heap.size < w1.heap.size := by have := hg.size; simp at this; omega
  clear hg ho1 hcu
  go_wp2_with fail
  refine (markFcs_any lo hi b m (1 + 2 * n) D.fs _ HMM.out.symm (by omega) (by omega) hm (fun j hj => by have := fcs_le HFS.out (j := j) (by rw [HMM.out]; exact hj); omega) HF2.out).mono ?_
  rintro e w2 ⟨rfl, hb2⟩
  have HT2 := Lib.hid (HT.out.trans hb2)
  clear hb2
  go_wp2
  go_ret
  exact ⟨1 + 2 * n + sumN (fcMk D.fs) m, rfl, by omega, HT2.out⟩
end Go.Proofs.YtfhlafnjccoocaaGreat
