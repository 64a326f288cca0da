/- ReadPoint of impl, and both under one name. -/
import Derived.Test.YtfaahcbdglbcjaaDoorReadPtS
import Derived.Test.YtfaahcbdglbcjaaDoorNumberImpl
import Derived.Test.YtfaahcbdglbcjaaDoorShelfCut
namespace Go.Proofs.YtfaahcbdglbcjaaDoor
open Go.ChangeShapes Go.WideShapes Go.ChangeAt Go.RowKit
set_option linter.unusedVariables false

/-- The cell of internal/bytealg.MaxLen holds a number. -/
def MaxOk (w : World) : Prop := 0 < w.heap.size ∧ ∃ m, w.cell? ⟨0, 0, none⟩ = some (.int .i64 m)
theorem MaxOk.below {B : Nat} {w w' : World} (h : MaxOk w) (hb : Below B w w') (hB : w.heap.size ≤ B) : MaxOk w' := by
  obtain ⟨h1, m, h2⟩ := h
  have hs := hb.size
  exact ⟨by omega, m, (hb.cell (p := ⟨0, 0, none⟩) (by simp; omega)).trans h2⟩
theorem cut_any (s : ByteArray) (w : World) (hs : s.size ≤ 1048576) (hM : MaxOk w) :
    Calls Tryd.prog 35 #[.string s, .string ⟨#[44]⟩] w fun e w' => e = .returned (.tuple #[.string (tb (Lib.cut s.data.toList [44]).1), .string (tb (Lib.cut s.data.toList [44]).2.1), .bool (Lib.cut s.data.toList [44]).2.2]) ∧ Below w.heap.size w w' := by
  obtain ⟨_, m, hm⟩ := hM
  exact (Tryd.strings_Cut s ⟨#[44]⟩ m w (by omega) hm).mono fun _ _ ⟨he, n, hw⟩ => ⟨he, hw ▸ ⟨rfl, rfl, rfl, Nat.le_refl _, fun _ _ => rfl⟩⟩
theorem num_tb (a : List UInt8) (o : Option Int) (w : World) (ha : a.length ≤ 1048576) (h : numI a = o) (hN : NumOk w) :
    Calls Tryd.prog 36 #[.string (tb a)] w fun e w' => e = .returned (.tuple #[.int .i64 (o.getD 0), .bool o.isSome]) ∧ Below w.heap.size w w' := by
  have := number_impl (tb a) w (by rw [tb_size]; exact ha) hN
  rw [tb_data, h] at this
  exact this
set_option maxHeartbeats 1000000 in
theorem readI_no1 (s : ByteArray) (a b : List UInt8) (c : Bool) (w : World) (hs : s.size ≤ 1048576) (h : Lib.cut s.data.toList [44] = (a, b, c)) (h1 : numI a = none) (hN : NumOk w) (hM : MaxOk w) : Calls Tryd.prog 15 #[.string s] w fun e w' => e = .returned (.tuple #[.agg #[.int .i64 0, .int .i64 0], .bool false]) ∧ Below w.heap.size w w' := by
  have hz := cut_size s.data.toList
  rw [h, size_list] at hz
  have hcu := Lib.hid (cut_any s)
  rw [h] at hcu
  clear h
  have HN := Lib.hid hN
  have HM := Lib.hid hM
  have H1 := Lib.hid h1
  clear h1
  clear hN hM
  go_enter Tryd.func15, Tryd.ntmps15
  go_wp2_with fail
  refine (hcu.out _ hs (HM.out.below (one_alloc _) (Nat.le_refl _))).mono ?_
  rintro e w1 ⟨rfl, g1⟩
  have HB1 := Lib.hid g1
  have HN1 := Lib.hid (HN.out.below (bseq (one_alloc _) g1) (Nat.le_refl _))
  clear g1
  go_wp2_with fail
  refine (num_tb a (none) _ (Nat.le_trans hz.1 hs) H1.out HN1.out).mono ?_
  rintro e w2 ⟨rfl, g2⟩
  have HB2 := Lib.hid (bseq HB1.out g2)
  have HN2 := Lib.hid (HN1.out.below g2 (Nat.le_refl _))
  clear g2
  go_wp2_with fail
  refine (num_tb b (numI b) _ (Nat.le_trans hz.2 hs) rfl HN2.out).mono ?_
  rintro e w3 ⟨rfl, g3⟩
  have HB3 := Lib.hid (bseq HB2.out g3)
  obtain ⟨hc, hf⟩ := bcell HB3.out
  have n0 : w.heap.size < w3.heap.size := by have := HB3.out.size; simp at this; omega
  clear g3
  go_wp2
  exact bodyPost_ret (v := .tuple #[.agg #[.int .i64 0, .int .i64 0], .bool false]) (by simp [results, Tryd.results15, go_sem, hc, n0]) rfl ⟨rfl, below_alloc (((bseq (one_alloc _) HB3.out).setCell (Nat.le_refl _) _).setCell (Nat.le_refl _) _) _⟩
set_option maxHeartbeats 1000000 in
theorem readI_no2 (s : ByteArray) (a b : List UInt8) (x y : Int) (c : Bool) (w : World) (hs : s.size ≤ 1048576) (h : Lib.cut s.data.toList [44] = (a, b, c)) (h1 : numI a = some x) (h2 : numI b = none) (hN : NumOk w) (hM : MaxOk w) : Calls Tryd.prog 15 #[.string s] w fun e w' => e = .returned (.tuple #[.agg #[.int .i64 0, .int .i64 0], .bool false]) ∧ Below w.heap.size w w' := by
  have hz := cut_size s.data.toList
  rw [h, size_list] at hz
  have hcu := Lib.hid (cut_any s)
  rw [h] at hcu
  clear h
  have HN := Lib.hid hN
  have HM := Lib.hid hM
  have H1 := Lib.hid h1
  have H2 := Lib.hid h2
  clear h1 h2
  clear hN hM
  go_enter Tryd.func15, Tryd.ntmps15
  go_wp2_with fail
  refine (hcu.out _ hs (HM.out.below (one_alloc _) (Nat.le_refl _))).mono ?_
  rintro e w1 ⟨rfl, g1⟩
  have HB1 := Lib.hid g1
  have HN1 := Lib.hid (HN.out.below (bseq (one_alloc _) g1) (Nat.le_refl _))
  clear g1
  go_wp2_with fail
  refine (num_tb a (some x) _ (Nat.le_trans hz.1 hs) H1.out HN1.out).mono ?_
  rintro e w2 ⟨rfl, g2⟩
  have HB2 := Lib.hid (bseq HB1.out g2)
  have HN2 := Lib.hid (HN1.out.below g2 (Nat.le_refl _))
  clear g2
  go_wp2_with fail
  refine (num_tb b (none) _ (Nat.le_trans hz.2 hs) H2.out HN2.out).mono ?_
  rintro e w3 ⟨rfl, g3⟩
  have HB3 := Lib.hid (bseq HB2.out g3)
  obtain ⟨hc, hf⟩ := bcell HB3.out
  have n0 : w.heap.size < w3.heap.size := by have := HB3.out.size; simp at this; omega
  clear g3
  go_wp2
  exact bodyPost_ret (v := .tuple #[.agg #[.int .i64 0, .int .i64 0], .bool false]) (by simp [results, Tryd.results15, go_sem, hc, n0]) rfl ⟨rfl, below_alloc (((bseq (one_alloc _) HB3.out).setCell (Nat.le_refl _) _).setCell (Nat.le_refl _) _) _⟩
set_option maxHeartbeats 1000000 in
theorem readI_no3 (s : ByteArray) (a b : List UInt8) (x y : Int) (c : Bool) (w : World) (hs : s.size ≤ 1048576) (h : Lib.cut s.data.toList [44] = (a, b, c)) (h1 : numI a = some x) (h2 : numI b = some y) (h3 : okI x y = false) (hN : NumOk w) (hM : MaxOk w) : Calls Tryd.prog 15 #[.string s] w fun e w' => e = .returned (.tuple #[.agg #[.int .i64 0, .int .i64 0], .bool false]) ∧ Below w.heap.size w w' := by
  have hz := cut_size s.data.toList
  rw [h, size_list] at hz
  have hcu := Lib.hid (cut_any s)
  rw [h] at hcu
  clear h
  have HN := Lib.hid hN
  have HM := Lib.hid hM
  have H1 := Lib.hid h1
  have H2 := Lib.hid h2
  have HOK : Hid (∀ w, Calls Tryd.prog 37 #[.agg #[.int .i64 x, .int .i64 y]] w fun e w' => e = .returned (.bool false) ∧ Below w.heap.size w w') := Lib.hid (fun w => by have := valid_impl x y w; rw [h3] at this; exact this)
  clear h3
  clear h1 h2
  clear hN hM
  go_enter Tryd.func15, Tryd.ntmps15
  go_wp2_with fail
  refine (hcu.out _ hs (HM.out.below (one_alloc _) (Nat.le_refl _))).mono ?_
  rintro e w1 ⟨rfl, g1⟩
  have HB1 := Lib.hid g1
  have HN1 := Lib.hid (HN.out.below (bseq (one_alloc _) g1) (Nat.le_refl _))
  clear g1
  go_wp2_with fail
  refine (num_tb a (some x) _ (Nat.le_trans hz.1 hs) H1.out HN1.out).mono ?_
  rintro e w2 ⟨rfl, g2⟩
  have HB2 := Lib.hid (bseq HB1.out g2)
  have HN2 := Lib.hid (HN1.out.below g2 (Nat.le_refl _))
  clear g2
  go_wp2_with fail
  refine (num_tb b (some y) _ (Nat.le_trans hz.2 hs) H2.out HN2.out).mono ?_
  rintro e w3 ⟨rfl, g3⟩
  have HB3 := Lib.hid (bseq HB2.out g3)
  obtain ⟨hc, hf⟩ := bcell HB3.out
  have n0 : w.heap.size < w3.heap.size := by have := HB3.out.size; simp at this; omega
  clear g3
  go_wp2_with fail
  refine (HOK.out _).mono ?_
  rintro e w4 ⟨rfl, g4⟩
  obtain ⟨k4, q4⟩ := bcell g4
  have HB4 := Lib.hid g4
  have n1 : w3.heap.size < w4.heap.size := by have := g4.size; simp at this; omega
  have n2 : w.heap.size < w4.heap.size := by omega
  have e40 : w4.cell? ⟨w.heap.size, 0, none⟩ = some (.int .i64 0) := by rw [k4 _ _ (by simp; omega)]; go_simp
  have e41 : w4.cell? ⟨w.heap.size, 1, none⟩ = some (.int .i64 0) := by rw [k4 _ _ (by simp; omega)]; go_simp
  clear g4
  go_wp2
  exact bodyPost_ret (v := .tuple #[.agg #[.int .i64 0, .int .i64 0], .bool false]) (by simp [results, Tryd.results15, go_sem, e40, e41]) rfl ⟨rfl, ((bseq (below_alloc (bseq (one_alloc _) HB3.out) _) HB4.out).setCell (by simp) _).setCell (by simp) _⟩
set_option maxHeartbeats 1000000 in
theorem readI_yes (s : ByteArray) (a b : List UInt8) (x y : Int) (c : Bool) (w : World) (hs : s.size ≤ 1048576) (h : Lib.cut s.data.toList [44] = (a, b, c)) (h1 : numI a = some x) (h2 : numI b = some y) (h3 : okI x y = true) (hN : NumOk w) (hM : MaxOk w) : Calls Tryd.prog 15 #[.string s] w fun e w' => e = .returned (.tuple #[.agg #[.int .i64 x, .int .i64 y], .bool true]) ∧ Below w.heap.size w w' := by
  have hz := cut_size s.data.toList
  rw [h, size_list] at hz
  have hcu := Lib.hid (cut_any s)
  rw [h] at hcu
  clear h
  have HN := Lib.hid hN
  have HM := Lib.hid hM
  have H1 := Lib.hid h1
  have H2 := Lib.hid h2
  have HOK : Hid (∀ w, Calls Tryd.prog 37 #[.agg #[.int .i64 x, .int .i64 y]] w fun e w' => e = .returned (.bool true) ∧ Below w.heap.size w w') := Lib.hid (fun w => by have := valid_impl x y w; rw [h3] at this; exact this)
  clear h3
  clear h1 h2
  clear hN hM
  go_enter Tryd.func15, Tryd.ntmps15
  go_wp2_with fail
  refine (hcu.out _ hs (HM.out.below (one_alloc _) (Nat.le_refl _))).mono ?_
  rintro e w1 ⟨rfl, g1⟩
  have HB1 := Lib.hid g1
  have HN1 := Lib.hid (HN.out.below (bseq (one_alloc _) g1) (Nat.le_refl _))
  clear g1
  go_wp2_with fail
  refine (num_tb a (some x) _ (Nat.le_trans hz.1 hs) H1.out HN1.out).mono ?_
  rintro e w2 ⟨rfl, g2⟩
  have HB2 := Lib.hid (bseq HB1.out g2)
  have HN2 := Lib.hid (HN1.out.below g2 (Nat.le_refl _))
  clear g2
  go_wp2_with fail
  refine (num_tb b (some y) _ (Nat.le_trans hz.2 hs) H2.out HN2.out).mono ?_
  rintro e w3 ⟨rfl, g3⟩
  have HB3 := Lib.hid (bseq HB2.out g3)
  obtain ⟨hc, hf⟩ := bcell HB3.out
  have n0 : w.heap.size < w3.heap.size := by have := HB3.out.size; simp at this; omega
  clear g3
  go_wp2_with fail
  refine (HOK.out _).mono ?_
  rintro e w4 ⟨rfl, g4⟩
  obtain ⟨k4, q4⟩ := bcell g4
  have HB4 := Lib.hid g4
  have n1 : w3.heap.size < w4.heap.size := by have := g4.size; simp at this; omega
  have n2 : w.heap.size < w4.heap.size := by omega
  have e40 : w4.cell? ⟨w.heap.size, 0, none⟩ = some (.int .i64 0) := by rw [k4 _ _ (by simp; omega)]; go_simp
  have e41 : w4.cell? ⟨w.heap.size, 1, none⟩ = some (.int .i64 0) := by rw [k4 _ _ (by simp; omega)]; go_simp
  clear g4
  go_wp2
  exact bodyPost_ret (v := .tuple #[.agg #[.int .i64 x, .int .i64 y], .bool true]) (by simp [results, Tryd.results15, go_sem, e40, e41]) rfl ⟨rfl, ((bseq (below_alloc (bseq (one_alloc _) HB3.out) _) HB4.out).setCell (by simp) _).setCell (by simp) _⟩
theorem readI (s : ByteArray) (w : World) (hs : s.size ≤ 1048576) (hN : NumOk w) (hM : MaxOk w) : Calls Tryd.prog 15 #[.string s] w fun e w' => e = .returned (.tuple #[.agg #[.int .i64 ((rpO s.data.toList).getD (0, 0)).1, .int .i64 ((rpO s.data.toList).getD (0, 0)).2], .bool (rpO s.data.toList).isSome]) ∧ Below w.heap.size w w' := by
  have hr : rpO s.data.toList = rdP (Lib.cut s.data.toList [44]).1 (Lib.cut s.data.toList [44]).2.1 := rfl
  rw [hr]; clear hr
  obtain ⟨a, b, c, h⟩ : ∃ a b c, Lib.cut s.data.toList [44] = (a, b, c) := ⟨_, _, _, rfl⟩
  rw [h]
  show Calls Tryd.prog 15 #[.string s] w fun e w' => e = .returned (.tuple #[.agg #[.int .i64 ((rdP a b).getD (0, 0)).1, .int .i64 ((rdP a b).getD (0, 0)).2], .bool (rdP a b).isSome]) ∧ Below w.heap.size w w'
  cases h1 : numI a with
  | none => rw [rd_no1 h1]; exact readI_no1 s a b c w hs h h1 hN hM
  | some x =>
    cases h2 : numI b with
    | none => rw [rd_no2 h2]; exact readI_no2 s a b x 0 c w hs h h1 h2 hN hM
    | some y =>
      cases h3 : okI x y with
      | false => rw [rd_no3 h1 h2 h3]; exact readI_no3 s a b x y c w hs h h1 h2 h3 hN hM
      | true => rw [rd_yes h1 h2 h3]; exact readI_yes s a b x y c w hs h h1 h2 h3 hN hM
set_option maxHeartbeats 1000000 in
theorem readPS (s : ByteArray) (w : World) (hs : s.size ≤ 1048576) : Calls Tryd.prog 19 #[.string s] w fun e w' => e = .returned (.tuple #[.agg #[.int .i64 ((rpO s.data.toList).getD (0, 0)).1, .int .i64 ((rpO s.data.toList).getD (0, 0)).2], .bool (rpO s.data.toList).isSome]) ∧ Below w.heap.size w w' := by
  have hr := Lib.hid (fun w => readS s w hs)
  generalize rpO s.data.toList = r at *
  go_enter Tryd.func19, Tryd.ntmps19
  go_wp2_with fail
  refine (hr.out _).mono ?_
  rintro e w1 ⟨rfl, g1⟩
  obtain ⟨hc, hf⟩ := bcell g1
  have HB1 := Lib.hid g1
  clear g1
  generalize hx : (r.getD (0, 0)).1 = x at *
  generalize hy : (r.getD (0, 0)).2 = y at *
  generalize hb : r.isSome = b at *
  have HE := Lib.hid (And.intro hx (And.intro hy hb))
  clear hx hy hb
  go_wp2
  exact bodyPost_ret (v := .tuple #[.agg #[.int .i64 x, .int .i64 y], .bool b]) (by simp [results, Tryd.results19, go_sem, hc]) rfl ⟨by rw [HE.out.1, HE.out.2.1, HE.out.2.2], ((bseq (one_alloc _) HB1.out).setCell (by simp) _).setCell (by simp) _⟩
end Go.Proofs.YtfaahcbdglbcjaaDoor
