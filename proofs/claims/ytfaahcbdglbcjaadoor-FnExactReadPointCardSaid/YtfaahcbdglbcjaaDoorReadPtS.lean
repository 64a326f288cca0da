/- ReadPoint of spec. -/
import Derived.Test.YtfaahcbdglbcjaaDoorReadPtMath
import Derived.Test.YtfaahcbdglbcjaaDoorSplit
import Derived.Test.YtfaahcbdglbcjaaDoorNumber
namespace Go.Proofs.YtfaahcbdglbcjaaDoor
open Go.ChangeShapes Go.WideShapes Go.ChangeAt Go.RowKit
set_option linter.unusedVariables false

theorem below_alloc {a b : World} (h : Below a.heap.size a b) (o : Obj) : Below a.heap.size a (b.alloc o) := h.alloc h.size o
set_option maxHeartbeats 1000000 in
theorem readS_other (s : ByteArray) (w : World) (hs : s.size ≤ 1048576) (h : (spl 44 s.data.toList).length ≠ 2) : Calls Tryd.prog 40 #[.string s] w fun e w' => e = .returned (.tuple #[.agg #[.int .i64 0, .int .i64 0], .bool false]) ∧ Below w.heap.size w w' := by
  have hl := spl_size 44 s.data.toList
  have hl2 : (spl 44 s.data.toList).length ≤ 1048577 := by rw [size_list] at hl; omega
  have h1 : (((spl 44 s.data.toList).length : Int) != 2) = true := by simpa using (show ((spl 44 s.data.toList).length : Int) ≠ 2 by omega)
  have hsp := Lib.hid (split_any s 44)
  have h0 : 0 < (spl 44 s.data.toList).length := by rw [spl_len]; omega
  clear h hl
  go_enter Tryd.func40, Tryd.ntmps40
  go_wp2_with fail
  refine (hsp.out _ hs).mono ?_
  rintro e w1 ⟨v, rfl, ho, g1⟩
  obtain ⟨g, cap, rfl, hg1, hg2, hg3⟩ := own_shape ho h0
  obtain ⟨hc, hf⟩ := bcell g1
  have HB1 := Lib.hid g1
  clear g1 ho hsp
  generalize (spl 44 s.data.toList).length = n at *
  go_wp2
  exact bodyPost_ret (v := .tuple #[.agg #[.int .i64 0, .int .i64 0], .bool false]) (by simp [results, Tryd.results40, go_sem, hc]) rfl ⟨rfl, ((bseq (one_alloc _) HB1.out).setCell (by simp) _).setCell (by simp) _⟩
set_option maxHeartbeats 1000000 in
theorem readS_no1 (s : ByteArray) (a b : List UInt8) (w : World) (hs : s.size ≤ 1048576) (h : spl 44 s.data.toList = [a, b]) (h1 : numI a = none) : Calls Tryd.prog 40 #[.string s] w fun e w' => e = .returned (.tuple #[.agg #[.int .i64 0, .int .i64 0], .bool false]) ∧ Below w.heap.size w w' := by
  have ha : a.length ≤ 1048576 := by have := spl_piece 44 s.data.toList a (by rw [h]; simp); rw [size_list] at this; omega
  have hb : b.length ≤ 1048576 := by have := spl_piece 44 s.data.toList b (by rw [h]; simp); rw [size_list] at this; omega
  have hn1 := Lib.hid (fun w => l01Number_t (tb a) w (by rw [tb_size]; exact ha))
  have hn2 := Lib.hid (fun w => l01Number_t (tb b) w (by rw [tb_size]; exact hb))
  rw [tb_data] at hn1 hn2
  simp only [h1, Option.getD_none, Option.isSome_none] at hn1
  clear h1
  have hsp := Lib.hid (fun w => split_any s 44 w hs)
  rw [h] at hsp
  clear h ha hb
  go_enter Tryd.func40, Tryd.ntmps40
  go_wp2_with fail
  refine (hsp.out _).mono ?_
  rintro e w1 ⟨v, rfl, ho, g1⟩
  obtain ⟨g, cap, rfl, hg1, hg2, hg3⟩ := own_shape ho (by simp)
  have c0 : w1.cell? ⟨g, 0, none⟩ = some (.string (tb a)) := (ho.cellAt 0 (by simp)).trans rfl
  have c1 : w1.cell? ⟨g, 1, none⟩ = some (.string (tb b)) := (ho.cellAt 1 (by simp)).trans rfl
  obtain ⟨hc, hf⟩ := bcell g1
  have HB1 := Lib.hid g1
  have n0 : w.heap.size < w1.heap.size := by have := g1.size; simp at this; omega
  clear g1 ho hsp hg1
  simp only [List.length_cons, List.length_nil]
  go_wp2_with fail
  refine (hn1.out _).mono ?_
  rintro e w2 ⟨rfl, rfl⟩
  go_wp2_with fail
  refine (hn2.out _).mono ?_
  rintro e w3 ⟨rfl, rfl⟩
  go_wp2
  exact bodyPost_ret (v := .tuple #[.agg #[.int .i64 0, .int .i64 0], .bool false]) (by simp [results, Tryd.results40, go_sem, hc, n0]) rfl ⟨rfl, below_alloc (((bseq (one_alloc _) HB1.out).setCell (Nat.le_refl _) _).setCell (Nat.le_refl _) _) _⟩
set_option maxHeartbeats 1000000 in
theorem readS_no2 (s : ByteArray) (a b : List UInt8) (x y : Int) (w : World) (hs : s.size ≤ 1048576) (h : spl 44 s.data.toList = [a, b]) (h1 : numI a = some x) (h2 : numI b = none) : Calls Tryd.prog 40 #[.string s] w fun e w' => e = .returned (.tuple #[.agg #[.int .i64 0, .int .i64 0], .bool false]) ∧ Below w.heap.size w w' := by
  have ha : a.length ≤ 1048576 := by have := spl_piece 44 s.data.toList a (by rw [h]; simp); rw [size_list] at this; omega
  have hb : b.length ≤ 1048576 := by have := spl_piece 44 s.data.toList b (by rw [h]; simp); rw [size_list] at this; omega
  have hn1 := Lib.hid (fun w => l01Number_t (tb a) w (by rw [tb_size]; exact ha))
  have hn2 := Lib.hid (fun w => l01Number_t (tb b) w (by rw [tb_size]; exact hb))
  rw [tb_data] at hn1 hn2
  simp only [h1, Option.getD_some, Option.isSome_some] at hn1
  simp only [h2, Option.getD_none, Option.isSome_none] at hn2
  clear h1 h2
  have hsp := Lib.hid (fun w => split_any s 44 w hs)
  rw [h] at hsp
  clear h ha hb
  go_enter Tryd.func40, Tryd.ntmps40
  go_wp2_with fail
  refine (hsp.out _).mono ?_
  rintro e w1 ⟨v, rfl, ho, g1⟩
  obtain ⟨g, cap, rfl, hg1, hg2, hg3⟩ := own_shape ho (by simp)
  have c0 : w1.cell? ⟨g, 0, none⟩ = some (.string (tb a)) := (ho.cellAt 0 (by simp)).trans rfl
  have c1 : w1.cell? ⟨g, 1, none⟩ = some (.string (tb b)) := (ho.cellAt 1 (by simp)).trans rfl
  obtain ⟨hc, hf⟩ := bcell g1
  have HB1 := Lib.hid g1
  have n0 : w.heap.size < w1.heap.size := by have := g1.size; simp at this; omega
  clear g1 ho hsp hg1
  simp only [List.length_cons, List.length_nil]
  go_wp2_with fail
  refine (hn1.out _).mono ?_
  rintro e w2 ⟨rfl, rfl⟩
  go_wp2_with fail
  refine (hn2.out _).mono ?_
  rintro e w3 ⟨rfl, rfl⟩
  go_wp2
  exact bodyPost_ret (v := .tuple #[.agg #[.int .i64 0, .int .i64 0], .bool false]) (by simp [results, Tryd.results40, go_sem, hc, n0]) rfl ⟨rfl, below_alloc (((bseq (one_alloc _) HB1.out).setCell (Nat.le_refl _) _).setCell (Nat.le_refl _) _) _⟩
set_option maxHeartbeats 1000000 in
theorem readS_no3 (s : ByteArray) (a b : List UInt8) (x y : Int) (w : World) (hs : s.size ≤ 1048576) (h : spl 44 s.data.toList = [a, b]) (h1 : numI a = some x) (h2 : numI b = some y) (h3 : okI x y = false) : Calls Tryd.prog 40 #[.string s] w fun e w' => e = .returned (.tuple #[.agg #[.int .i64 0, .int .i64 0], .bool false]) ∧ Below w.heap.size w w' := by
  have ha : a.length ≤ 1048576 := by have := spl_piece 44 s.data.toList a (by rw [h]; simp); rw [size_list] at this; omega
  have hb : b.length ≤ 1048576 := by have := spl_piece 44 s.data.toList b (by rw [h]; simp); rw [size_list] at this; omega
  have hn1 := Lib.hid (fun w => l01Number_t (tb a) w (by rw [tb_size]; exact ha))
  have hn2 := Lib.hid (fun w => l01Number_t (tb b) w (by rw [tb_size]; exact hb))
  rw [tb_data] at hn1 hn2
  simp only [h1, Option.getD_some, Option.isSome_some] at hn1
  simp only [h2, Option.getD_some, Option.isSome_some] at hn2
  have HOK : Hid (∀ w, Calls Tryd.prog 34 #[.agg #[.int .i64 x, .int .i64 y]] w fun e w' => e = .returned (.bool false) ∧ Below w.heap.size w w') := Lib.hid (fun w => by have := ok_spec x y w; rw [h3] at this; exact this)
  clear h1 h2 h3
  have hsp := Lib.hid (fun w => split_any s 44 w hs)
  rw [h] at hsp
  clear h ha hb
  go_enter Tryd.func40, Tryd.ntmps40
  go_wp2_with fail
  refine (hsp.out _).mono ?_
  rintro e w1 ⟨v, rfl, ho, g1⟩
  obtain ⟨g, cap, rfl, hg1, hg2, hg3⟩ := own_shape ho (by simp)
  have c0 : w1.cell? ⟨g, 0, none⟩ = some (.string (tb a)) := (ho.cellAt 0 (by simp)).trans rfl
  have c1 : w1.cell? ⟨g, 1, none⟩ = some (.string (tb b)) := (ho.cellAt 1 (by simp)).trans rfl
  obtain ⟨hc, hf⟩ := bcell g1
  have HB1 := Lib.hid g1
  have n0 : w.heap.size < w1.heap.size := by have := g1.size; simp at this; omega
  clear g1 ho hsp hg1
  simp only [List.length_cons, List.length_nil]
  go_wp2_with fail
  refine (hn1.out _).mono ?_
  rintro e w2 ⟨rfl, rfl⟩
  go_wp2_with fail
  refine (hn2.out _).mono ?_
  rintro e w3 ⟨rfl, rfl⟩
  go_wp2_with fail
  refine (HOK.out _).mono ?_
  rintro e w4 ⟨rfl, g4⟩
  obtain ⟨k4, q4⟩ := bcell g4
  have HB4 := Lib.hid g4
  have n1 : w1.heap.size < w4.heap.size := by have := g4.size; simp at this; omega
  have n2 : w.heap.size < w4.heap.size := by omega
  have e40 : w4.cell? ⟨w.heap.size, 0, none⟩ = some (.int .i64 0) := by rw [k4 _ _ (by simp; omega)]; go_simp
  have e41 : w4.cell? ⟨w.heap.size, 1, none⟩ = some (.int .i64 0) := by rw [k4 _ _ (by simp; omega)]; go_simp
  clear g4
  go_wp2
  exact bodyPost_ret (v := .tuple #[.agg #[.int .i64 0, .int .i64 0], .bool false]) (by simp [results, Tryd.results40, go_sem, e40, e41]) rfl ⟨rfl, ((bseq ((bseq (one_alloc _) HB1.out).alloc (bseq (one_alloc _) HB1.out).size _) HB4.out).setCell (by simp) _).setCell (by simp) _⟩
set_option maxHeartbeats 1000000 in
theorem readS_yes (s : ByteArray) (a b : List UInt8) (x y : Int) (w : World) (hs : s.size ≤ 1048576) (h : spl 44 s.data.toList = [a, b]) (h1 : numI a = some x) (h2 : numI b = some y) (h3 : okI x y = true) : Calls Tryd.prog 40 #[.string s] w fun e w' => e = .returned (.tuple #[.agg #[.int .i64 x, .int .i64 y], .bool true]) ∧ Below w.heap.size w w' := by
  have ha : a.length ≤ 1048576 := by have := spl_piece 44 s.data.toList a (by rw [h]; simp); rw [size_list] at this; omega
  have hb : b.length ≤ 1048576 := by have := spl_piece 44 s.data.toList b (by rw [h]; simp); rw [size_list] at this; omega
  have hn1 := Lib.hid (fun w => l01Number_t (tb a) w (by rw [tb_size]; exact ha))
  have hn2 := Lib.hid (fun w => l01Number_t (tb b) w (by rw [tb_size]; exact hb))
  rw [tb_data] at hn1 hn2
  simp only [h1, Option.getD_some, Option.isSome_some] at hn1
  simp only [h2, Option.getD_some, Option.isSome_some] at hn2
  have HOK : Hid (∀ w, Calls Tryd.prog 34 #[.agg #[.int .i64 x, .int .i64 y]] w fun e w' => e = .returned (.bool true) ∧ Below w.heap.size w w') := Lib.hid (fun w => by have := ok_spec x y w; rw [h3] at this; exact this)
  clear h1 h2 h3
  have hsp := Lib.hid (fun w => split_any s 44 w hs)
  rw [h] at hsp
  clear h ha hb
  go_enter Tryd.func40, Tryd.ntmps40
  go_wp2_with fail
  refine (hsp.out _).mono ?_
  rintro e w1 ⟨v, rfl, ho, g1⟩
  obtain ⟨g, cap, rfl, hg1, hg2, hg3⟩ := own_shape ho (by simp)
  have c0 : w1.cell? ⟨g, 0, none⟩ = some (.string (tb a)) := (ho.cellAt 0 (by simp)).trans rfl
  have c1 : w1.cell? ⟨g, 1, none⟩ = some (.string (tb b)) := (ho.cellAt 1 (by simp)).trans rfl
  obtain ⟨hc, hf⟩ := bcell g1
  have HB1 := Lib.hid g1
  have n0 : w.heap.size < w1.heap.size := by have := g1.size; simp at this; omega
  clear g1 ho hsp hg1
  simp only [List.length_cons, List.length_nil]
  go_wp2_with fail
  refine (hn1.out _).mono ?_
  rintro e w2 ⟨rfl, rfl⟩
  go_wp2_with fail
  refine (hn2.out _).mono ?_
  rintro e w3 ⟨rfl, rfl⟩
  go_wp2_with fail
  refine (HOK.out _).mono ?_
  rintro e w4 ⟨rfl, g4⟩
  obtain ⟨k4, q4⟩ := bcell g4
  have HB4 := Lib.hid g4
  have n1 : w1.heap.size < w4.heap.size := by have := g4.size; simp at this; omega
  have n2 : w.heap.size < w4.heap.size := by omega
  have e40 : w4.cell? ⟨w.heap.size, 0, none⟩ = some (.int .i64 0) := by rw [k4 _ _ (by simp; omega)]; go_simp
  have e41 : w4.cell? ⟨w.heap.size, 1, none⟩ = some (.int .i64 0) := by rw [k4 _ _ (by simp; omega)]; go_simp
  clear g4
  go_wp2
  exact bodyPost_ret (v := .tuple #[.agg #[.int .i64 x, .int .i64 y], .bool true]) (by simp [results, Tryd.results40, go_sem, e40, e41]) rfl ⟨rfl, ((bseq ((bseq (one_alloc _) HB1.out).alloc (bseq (one_alloc _) HB1.out).size _) HB4.out).setCell (by simp) _).setCell (by simp) _⟩
theorem readS (s : ByteArray) (w : World) (hs : s.size ≤ 1048576) : Calls Tryd.prog 40 #[.string s] w fun e w' => e = .returned (.tuple #[.agg #[.int .i64 ((rpO s.data.toList).getD (0, 0)).1, .int .i64 ((rpO s.data.toList).getD (0, 0)).2], .bool (rpO s.data.toList).isSome]) ∧ Below w.heap.size w w' := by
  by_cases h : (spl 44 s.data.toList).length = 2
  · obtain ⟨a, b, h⟩ := len_two h
    rw [spl_two h]
    cases h1 : numI a with
    | none => rw [rd_no1 h1]; exact readS_no1 s a b w hs h h1
    | some x =>
      cases h2 : numI b with
      | none => rw [rd_no2 h2]; exact readS_no2 s a b x 0 w hs h h1 h2
      | some y =>
        cases h3 : okI x y with
        | false => rw [rd_no3 h1 h2 h3]; exact readS_no3 s a b x y w hs h h1 h2 h3
        | true => rw [rd_yes h1 h2 h3]; exact readS_yes s a b x y w hs h h1 h2 h3
  · rw [spl_other h]
    exact readS_other s w hs h
end Go.Proofs.YtfaahcbdglbcjaaDoor
