/- Several texts in one: Mat2, Mat3, Mat4. -/
import Derived.Test.YtcjpplijbdfgbaaDoorMat1
import Derived.Test.YtcjpplijbdfgbaaDoorLfS
import Derived.Test.YtcjpplijbdfgbaaDoorLea13
import Derived.Lib.LazyBuf
import Derived.Test.YtcjpplijbdfgbaaDoorSeq3
import Derived.Test.YtcjpplijbdfgbaaDoorLea16
namespace Go.Proofs.YtcjpplijbdfgbaaDoor
open Seq2 Go.ChangeShapes Go.WideShapes Go.ChangeAt Go.RowKit
set_option linter.unusedVariables false
set_option linter.unusedSimpArgs false

theorem flatBx_at (ds : List Bx) (j : Nat) (u : Value) (h : (flatBx ds)[j]? = some u) : ∃ i q, i < ds.length ∧ q < 4 ∧ j = i * 4 + q ∧ (oneBx (ds.getD i bx0))[q]? = some u := by
  have hj : j < ds.length * 4 := by
    have := (List.getElem?_eq_some_iff.1 h).1
    rwa [flatBx_len] at this
  have hi : j / 4 < ds.length := by omega
  have hq : j % 4 < 4 := by omega
  have e : j = j / 4 * 4 + j % 4 := by omega
  refine ⟨j / 4, j % 4, hi, hq, e, ?_⟩
  rw [← flatBx_get ds (j / 4) (j % 4) hi hq, ← e]
  exact h
theorem oneBx_cell {w : World} {b o q : Nat} {z : Bx} {u : Value} (h : BxAt w b o z) (hu : (oneBx z)[q]? = some u) : w.cell? ⟨b, o + q, none⟩ = some u := by
  obtain ⟨_, h0, h1, h2, h3⟩ := h
  match q, hu with
  | 0, hu => cases hu; exact h0
  | 1, hu => cases hu; exact h1
  | 2, hu => cases hu; exact h2
  | 3, hu => cases hu; exact h3
  | q + 4, hu => simp [oneBx] at hu
theorem flatBx_one (ds : List Bx) : ∀ u ∈ flatBx ds, u.oneCell' = true := fun u hu => by
  simp only [flatBx, List.mem_flatMap, oneBx, List.mem_cons, List.not_mem_nil, or_false] at hu
  obtain ⟨z, _, rfl | rfl | rfl | rfl⟩ := hu <;> rfl
set_option maxRecDepth 100000 in
set_option maxHeartbeats 2000000 in
theorem clone_bx (ao : Option Addr) (n c : Nat) (ds : List Bx) (w : World) (hn : n ≤ 1048576) (hv : BxV w ao n ds) :
    Calls Tryd.prog 124 #[.slice ao n c] w fun e w' => ∃ v, e = .returned v ∧ OwnBx w' w.heap.size v ds ∧ Below w.heap.size w w' := by
  have hz := hv.1
  cases ao with
  | none =>
    have h0 : n = 0 := by
      rcases hv.2 with h | ⟨b, h, _⟩
      · exact h
      · cases h
    subst h0
    obtain rfl := List.eq_nil_of_length_eq_zero hz.symm
    clear hv hz
    have hnil := fun w => run_eql_slice_nil (P := Tryd.prog) w 31 37 none 0 c Tryd.underlying31
    simp only [Option.isNone] at hnil
    go_enter Tryd.func124, Tryd.ntmps124
    go_wp2
    go_ret
    exact ⟨_, rfl, OwnBx.nil _ _, Below.refl _ _⟩
  | some a =>
    obtain ⟨i0, hi, hz0, hz1, hz2⟩ := info_parts infoBx
    have hown := World.ownsRow_made w (e := 37) (base := w.heap.size) (size := 4) #[] 0 (Nat.le_refl _) (by unfold maxLen; omega) rfl
    have HB := Lib.hid (one_alloc (w := w) (.cells #[] 37))
    have hle := HB.out.size
    have hlen : (flatBx ds).length = n * 4 := by rw [flatBx_len, ← hz]
    have hnews : ∀ j u, (flatBx ds)[j]? = some u → (w.alloc (.cells #[] 37)).cell? (Addr.add a j) = some u := fun j u hj => by
      obtain ⟨i, q, h1, h2, rfl, h4⟩ := flatBx_at ds j u hj
      rcases (hv.below HB.out).2 with h | ⟨b, h, hat⟩
      · omega
      · cases h
        rw [add_off0, Nat.zero_add]
        exact oneBx_cell (hat i (by omega)) h4
    have hne : (Value.slice (some ⟨w.heap.size, 0, none⟩) 0 0).ownBlock ≠ some a.block ∨ n = 0 := by
      rcases hv.2 with h | ⟨b, h, hat⟩
      · exact Or.inr h
      · by_cases h0 : n = 0
        · exact Or.inr h0
        · cases h
          have := (hat 0 (by omega)).1
          exact Or.inl (by simp [Value.ownBlock]; omega)
    have HH := Lib.hid (And.intro hnews (flatBx_one ds))
    have HZ := Lib.hid hz
    have hnil := fun w => run_eql_slice_nil (P := Tryd.prog) w 31 37 (some a) n c Tryd.underlying31
    simp only [Option.isNone] at hnil
    clear hnews hv hz
    go_enter Tryd.func124, Tryd.ntmps124
    go_wp2_with (at_builtin; refine wpList_append_own _ rfl _ _ 31 rfl w.heap.size 37 i0 _ 4 32 Tryd.underlying31 hi hz0 hz1 hz2 rfl (by omega) _ 0 [] rfl hown a n c (flatBx ds) rfl hlen HH.out.1 HH.out.2 (by unfold maxLen; omega) (by omega) hle ?_)
    intro v' w4 hown' hgrow _
    have HO := Lib.hid (show OwnBx w4 w.heap.size v' ds by
      unfold OwnBx
      rw [← HZ.out]
      simpa using hown')
    have HB' := Lib.hid (HB.out.grown hgrow hle (fun k hk => (by cases hk; exact Nat.le_refl _)))
    clear hown' hgrow hown
    go_wp2
    go_ret
    exact ⟨v', rfl, HO.out, HB'.out⟩
end Go.Proofs.YtcjpplijbdfgbaaDoor
namespace Go.Proofs.YtcjpplijbdfgbaaDoor
open Seq2 Go.ChangeShapes Go.WideShapes Go.ChangeAt Go.RowKit
set_option linter.unusedVariables false
set_option linter.unusedSimpArgs false

/-- The box of a leaf, and behind it the box of a result. -/
theorem two_lf (w : World) (z : Lf) (sv : Value) : (((w.alloc (.cells #[.string z.id, .string z.fl, .int .i64 z.nu, .string z.ve.1, .int .i64 z.ve.2.1, .int .i64 z.ve.2.2, .int .i64 z.wd, .int .i64 z.ln, sv] 33)).alloc (.cells #[.string ⟨#[]⟩, .string ⟨#[]⟩, .int .i64 0, .string ⟨#[]⟩, .int .i64 0, .int .i64 0, .int .i64 0, .int .i64 0, .slice none 0 0] 33)).heap[w.heap.size]? = some (.cells #[.string z.id, .string z.fl, .int .i64 z.nu, .string z.ve.1, .int .i64 z.ve.2.1, .int .i64 z.ve.2.2, .int .i64 z.wd, .int .i64 z.ln, sv] 33 (0, 0))) ∧ (((w.alloc (.cells #[.string z.id, .string z.fl, .int .i64 z.nu, .string z.ve.1, .int .i64 z.ve.2.1, .int .i64 z.ve.2.2, .int .i64 z.wd, .int .i64 z.ln, sv] 33)).alloc (.cells #[.string ⟨#[]⟩, .string ⟨#[]⟩, .int .i64 0, .string ⟨#[]⟩, .int .i64 0, .int .i64 0, .int .i64 0, .int .i64 0, .slice none 0 0] 33)).heap[w.heap.size + 1]? = some (.cells #[.string ⟨#[]⟩, .string ⟨#[]⟩, .int .i64 0, .string ⟨#[]⟩, .int .i64 0, .int .i64 0, .int .i64 0, .int .i64 0, .slice none 0 0] 33 (0, 0))) := by
  have h1 := (Below.heap_alloc (w.alloc (.cells #[.string z.id, .string z.fl, .int .i64 z.nu, .string z.ve.1, .int .i64 z.ve.2.1, .int .i64 z.ve.2.2, .int .i64 z.wd, .int .i64 z.ln, sv] 33)) (.cells #[.string ⟨#[]⟩, .string ⟨#[]⟩, .int .i64 0, .string ⟨#[]⟩, .int .i64 0, .int .i64 0, .int .i64 0, .int .i64 0, .slice none 0 0] 33) w.heap.size (by simp)).trans (World.alloc_heap_new w (.cells #[.string z.id, .string z.fl, .int .i64 z.nu, .string z.ve.1, .int .i64 z.ve.2.1, .int .i64 z.ve.2.2, .int .i64 z.wd, .int .i64 z.ln, sv] 33))
  have h2 := World.alloc_heap_new (w.alloc (.cells #[.string z.id, .string z.fl, .int .i64 z.nu, .string z.ve.1, .int .i64 z.ve.2.1, .int .i64 z.ve.2.2, .int .i64 z.wd, .int .i64 z.ln, sv] 33)) (.cells #[.string ⟨#[]⟩, .string ⟨#[]⟩, .int .i64 0, .string ⟨#[]⟩, .int .i64 0, .int .i64 0, .int .i64 0, .int .i64 0, .slice none 0 0] 33)
  rw [show (w.alloc (.cells #[.string z.id, .string z.fl, .int .i64 z.nu, .string z.ve.1, .int .i64 z.ve.2.1, .int .i64 z.ve.2.2, .int .i64 z.wd, .int .i64 z.ln, sv] 33)).heap.size = w.heap.size + 1 by simp] at h2
  exact ⟨h1, h2⟩
/-- Another block stays while nine cells are stored. -/
theorem keep_blk9 {w : World} {p q : Nat} {o : Obj} {x0 x1 x2 x3 x4 x5 x6 x7 x8 : Value} (h : w.heap[q]? = some o) (hq : q ≠ p) : (((((((((w.setCell ⟨p, 0, none⟩ x0).setCell ⟨p, 1, none⟩ x1).setCell ⟨p, 2, none⟩ x2).setCell ⟨p, 3, none⟩ x3).setCell ⟨p, 4, none⟩ x4).setCell ⟨p, 5, none⟩ x5).setCell ⟨p, 6, none⟩ x6).setCell ⟨p, 7, none⟩ x7).setCell ⟨p, 8, none⟩ x8).heap[q]? = some o := by
  repeat (rw [Below.heap_setCell _ _ _ _ (by simpa using hq)])
  exact h
set_option maxRecDepth 100000 in
set_option maxHeartbeats 8000000 in
theorem copied_impl (z : Lf) (ao : Option Addr) (n c : Nat) (w : World) (hn : n ≤ 1048576) (hd : BxV w ao n z.df) :
    Calls Tryd.prog 95 #[lfW z (.slice ao n c)] w fun e w' => ∃ (ao2 : Option Addr) (cc : Nat), e = .returned (lfW z (.slice ao2 z.df.length cc)) ∧ OwnBx w' w.heap.size (.slice ao2 z.df.length cc) z.df ∧ Below w.heap.size w w' := by
  have HA := Lib.hid (two_allocs (w := w) (.cells #[.string z.id, .string z.fl, .int .i64 z.nu, .string z.ve.1, .int .i64 z.ve.2.1, .int .i64 z.ve.2.2, .int .i64 z.wd, .int .i64 z.ln, .slice ao n c] 33) (.cells #[.string ⟨#[]⟩, .string ⟨#[]⟩, .int .i64 0, .string ⟨#[]⟩, .int .i64 0, .int .i64 0, .int .i64 0, .int .i64 0, .slice none 0 0] 33))
  have HX := Lib.hid (two_lf w z (.slice ao n c)).1
  have HP := Lib.hid (two_lf w z (.slice ao n c)).2
  have HD := Lib.hid (hd.below HA.out)
  obtain ⟨hxz, c0, f0, c1, f1, c2, f2, c3, f3, c4, f4, c5, f5, c6, f6, c7, f7, c8, f8⟩ := cells9_of HX.out
  clear hd
  unfold lfW
  go_enter Tryd.func95, Tryd.ntmps95
  go_wp2_with fail
  refine (clone_bx ao n c z.df _ hn HD.out).mono ?_
  rintro e w1 ⟨v, rfl, ho, g1⟩
  obtain ⟨ao2, cc, rfl, _⟩ := OwnBx.view ho
  have HG := Lib.hid (bseq HA.out g1)
  have HX1 := Lib.hid ((g1.block _ (blk_lt HX.out)).trans HX.out)
  have HP1 := Lib.hid ((g1.block _ (blk_lt HP.out)).trans HP.out)
  have HO := Lib.hid (own_lower ho HA.out.size)
  have HLT := Lib.hid (show w.heap.size + 1 < ((w.alloc (.cells #[.string z.id, .string z.fl, .int .i64 z.nu, .string z.ve.1, .int .i64 z.ve.2.1, .int .i64 z.ve.2.2, .int .i64 z.wd, .int .i64 z.ln, .slice ao n c] 33)).alloc (.cells #[.string ⟨#[]⟩, .string ⟨#[]⟩, .int .i64 0, .string ⟨#[]⟩, .int .i64 0, .int .i64 0, .int .i64 0, .int .i64 0, .slice none 0 0] 33)).heap.size by simp)
  have HOB := Lib.hid ho
  clear ho g1 hxz c0 f0 c1 f1 c2 f2 c3 f3 c4 f4 c5 f5 c6 f6 c7 f7 c8 f8
  obtain ⟨hxz, c0, f0, c1, f1, c2, f2, c3, f3, c4, f4, c5, f5, c6, f6, c7, f7, c8, f8⟩ := cells9_of HX1.out
  obtain ⟨hpz, d0, e0, d1, e1, d2, e2, d3, e3, d4, e4, d5, e5, d6, e6, d7, e7, d8, e8⟩ := cells9_of HP1.out
  have HP2 := Lib.hid ((Below.heap_setCell w1 ⟨w.heap.size, 8, none⟩ (.slice ao2 z.df.length cc) (w.heap.size + 1) (by simp)).trans HP1.out)
  go_wp2
  have hq := st9 (x0 := .string z.id) (x1 := .string z.fl) (x2 := .int .i64 z.nu) (x3 := .string z.ve.1) (x4 := .int .i64 z.ve.2.1) (x5 := .int .i64 z.ve.2.2) (x6 := .int .i64 z.wd) (x7 := .int .i64 z.ln) (x8 := .slice ao2 z.df.length cc) HP2.out
  have HBL := Lib.hid (bel9 (x0 := .string z.id) (x1 := .string z.fl) (x2 := .int .i64 z.nu) (x3 := .string z.ve.1) (x4 := .int .i64 z.ve.2.1) (x5 := .int .i64 z.ve.2.2) (x6 := .int .i64 z.wd) (x7 := .int .i64 z.ln) (x8 := .slice ao2 z.df.length cc) (p := w.heap.size + 1) (HG.out.setCell (p := ⟨w.heap.size, 8, none⟩) (Nat.le_refl _) (.slice ao2 z.df.length cc)) (by omega))
  have HOF := Lib.hid (own_lower (keep9 (x0 := .string z.id) (x1 := .string z.fl) (x2 := .int .i64 z.nu) (x3 := .string z.ve.1) (x4 := .int .i64 z.ve.2.1) (x5 := .int .i64 z.ve.2.2) (x6 := .int .i64 z.wd) (x7 := .int .i64 z.ln) (x8 := .slice ao2 z.df.length cc) (p := w.heap.size + 1) (keep_set HOB.out ⟨w.heap.size, 8, none⟩ (.slice ao2 z.df.length cc) (Nat.lt_of_succ_lt HLT.out)) HLT.out) HA.out.size)
  obtain ⟨_, q0, _, q1, _, q2, _, q3, _, q4, _, q5, _, q6, _, q7, _, q8, _⟩ := cells9_of hq
  refine bodyPost_ret (v := .agg #[.string z.id, .string z.fl, .int .i64 z.nu, .string z.ve.1, .int .i64 z.ve.2.1, .int .i64 z.ve.2.2, .int .i64 z.wd, .int .i64 z.ln, .slice ao2 z.df.length cc]) ?_ rfl ⟨ao2, cc, rfl, HOF.out, HBL.out⟩
  clear hq c0 f0 c1 f1 c2 f2 c3 f3 c4 f4 c5 f5 c6 f6 c7 f7 c8 f8 d0 e0 d1 e1 d2 e2 d3 e3 d4 e4 d5 e5 d6 e6 d7 e7 d8 e8
  generalize World.setCell _ _ _ = W' at *
  simp [results, Tryd.results95, go_sem, q0, q1, q2, q3, q4, q5, q6, q7, q8]
end Go.Proofs.YtcjpplijbdfgbaaDoor
namespace Go.Proofs.YtcjpplijbdfgbaaDoor
open Seq2 Go.ChangeShapes Go.WideShapes Go.ChangeAt Go.RowKit
set_option linter.unusedVariables false
set_option linter.unusedSimpArgs false

def mirB (W : Int) (d : Bx) : Bx := (W - (d.1 + d.2.2.1), d.2.1, d.2.2.1, d.2.2.2)
def mirZ (z : Lf) : Lf := { z with ve := (z.ve.1, z.ve.2.1, mirG z.ve.2.2), df := z.df.map (mirB z.wd) }
/-- The defects, of which the first k are turned. -/
def mdL (z : Lf) (k : Nat) : List Bx := (z.df.take k).map (mirB z.wd) ++ z.df.drop k
theorem mdL_len (z : Lf) (k : Nat) : (mdL z k).length = z.df.length := by
  simp [mdL]; omega
theorem mdL_get (z : Lf) (k : Nat) (hk : k < z.df.length) : (mdL z k).getD k bx0 = z.df.getD k bx0 := by
  unfold mdL
  rw [List.getD_eq_getElem?_getD, List.getElem?_append_right (by simp; omega)]
  simp [List.getD_eq_getElem?_getD, show min k z.df.length = k by omega]
theorem mdL_set (z : Lf) (k : Nat) (hk : k < z.df.length) : (mdL z k).set k (mirB z.wd (z.df.getD k bx0)) = mdL z (k + 1) := by
  unfold mdL
  have e : z.df.getD k bx0 = z.df[k] := by simp [hk]
  rw [e, List.take_succ_eq_append_getElem hk, List.map_append, List.set_append_right _ _ (by simp; omega)]
  simp only [List.length_map, List.length_take, show min k z.df.length = k by omega, Nat.sub_self]
  rw [List.drop_eq_getElem_cons hk, List.set_cons_zero]
  simp
theorem mdL_all (z : Lf) : mdL z z.df.length = (mirZ z).df := by simp [mdL, mirZ]
theorem mdL_none (z : Lf) : mdL z 0 = z.df := by simp [mdL]
theorem flatBx_setX : ∀ (L : List Bx) (k : Nat) (x : Int), k < L.length → (flatBx L).set (k * 4) (.int .i64 x) = flatBx (L.set k (x, (L.getD k bx0).2))
  | [], k, x, h => by simp at h
  | d :: L, 0, x, _ => by simp [flatBx_cons, oneBx]
  | d :: L, k + 1, x, h => by
    rw [flatBx_cons, List.set_append_right _ _ (by show 4 ≤ _; rw [Nat.succ_mul]; omega), List.set_cons_succ, flatBx_cons, List.getD_cons_succ, show (k + 1) * 4 - (oneBx d).length = k * 4 by show _ - 4 = _; rw [Nat.succ_mul]; omega, flatBx_setX L k x (by simpa using h)]
theorem own_setX {w : World} {base g n cap k : Nat} {L : List Bx} {x : Int} (h : OwnBx w base (.slice (some ⟨g, 0, none⟩) n cap) L) (hk : k < L.length) : OwnBx (w.setCell ⟨g, k * 4, none⟩ (.int .i64 x)) base (.slice (some ⟨g, 0, none⟩) n cap) (L.set k (x, (L.getD k bx0).2)) := by
  unfold OwnBx at h ⊢
  obtain ⟨h1, ⟨h2, h3⟩ | ⟨g', cap', cur, h2, h3, h4, h5, h6, h7, h8⟩⟩ := h
  · cases h2
  · cases h2
    refine ⟨by rw [flatBx_len], Or.inr ⟨g, cap, _, by rw [List.length_set], h3, heap_setCell_same _ _ _ _ _ _ h4, by rw [List.length_set]; exact h5, h6, by simpa using h7, ?_⟩⟩
    rw [List.length_set, ← flatBx_setX L k x hk, ← h8, Array.toList_setIfInBounds, List.take_set]
theorem fr_blk {w : World} {g : Nat} {cur : Array Value} {t : TypeId} (h : w.heap[g]? = some (.cells cur t (0, 0))) (j : Nat) : w.frozen? ⟨g, j, none⟩ = false := by
  unfold World.frozen?
  rw [show (⟨g, j, none⟩ : Addr).block = g from rfl, h]
  simp
theorem OwnBx.blk {w : World} {base n cap : Nat} {ao : Option Addr} {L : List Bx} (h : OwnBx w base (.slice ao n cap) L) (h0 : 0 < L.length) : ∃ g, ao = some ⟨g, 0, none⟩ ∧ base ≤ g ∧ g < w.heap.size ∧ n = L.length ∧ ∃ cur, w.heap[g]? = some (.cells cur 37 (0, 0)) := by
  obtain ⟨_, ⟨_, h3⟩ | ⟨g', cap', cur, h2, h3, h4, _⟩⟩ := h
  · omega
  · cases h2
    exact ⟨g', rfl, h3, blk_lt h4, rfl, cur, h4⟩
set_option maxRecDepth 100000 in
set_option maxHeartbeats 16000000 in
theorem mirrored_impl (z : Lf) (ao : Option Addr) (n c : Nat) (w : World) (hB : lfB z = true) (hd : BxV w ao n z.df) :
    Calls Tryd.prog 63 #[lfW z (.slice ao n c)] w fun e w' => ∃ (ao2 : Option Addr) (cc : Nat), e = .returned (lfW (mirZ z) (.slice ao2 z.df.length cc)) ∧ OwnBx w' w.heap.size (.slice ao2 z.df.length cc) (mirZ z).df ∧ Below w.heap.size w w' := by
  obtain ⟨hW, _, h6, hdf⟩ := lfB_dfz hB
  have hgr := (lfN_of hB).gr
  have HA := Lib.hid (two_allocs (w := w) (.cells #[.string z.id, .string z.fl, .int .i64 z.nu, .string z.ve.1, .int .i64 z.ve.2.1, .int .i64 z.ve.2.2, .int .i64 z.wd, .int .i64 z.ln, .slice ao n c] 33) (.cells #[.string ⟨#[]⟩, .string ⟨#[]⟩, .int .i64 0, .string ⟨#[]⟩, .int .i64 0, .int .i64 0, .int .i64 0, .int .i64 0, .slice none 0 0] 33))
  have HX := Lib.hid (two_lf w z (.slice ao n c)).1
  have HP := Lib.hid (two_lf w z (.slice ao n c)).2
  have HD := Lib.hid (hd.below HA.out)
  have HNZ := Lib.hid hd.1
  have HWL := Lib.hid hW
  have HDF := Lib.hid hdf
  have HG0 := Lib.hid hgr
  have hn6 : z.df.length ≤ 6 := h6
  have hn : n ≤ 1048576 := by have := HNZ.out; omega
  obtain ⟨hxz, c0, f0, c1, f1, c2, f2, c3, f3, c4, f4, c5, f5, c6, f6, c7, f7, c8, f8⟩ := cells9_of HX.out
  have HC := Lib.hid (copied_impl z ao n c _ hn HD.out)
  clear hd hB hW h6 hdf hgr
  unfold lfW at HC ⊢
  go_enter Tryd.func63, Tryd.ntmps63
  go_wp2_with fail
  refine (HC.out).mono ?_
  rintro e w1 ⟨ao2, cc, rfl, ho, g1⟩
  have HG := Lib.hid (bseq HA.out g1)
  have HX1 := Lib.hid ((g1.block _ (blk_lt HX.out)).trans HX.out)
  have HP1 := Lib.hid ((g1.block _ (blk_lt HP.out)).trans HP.out)
  have HO := Lib.hid ho
  have HLT := Lib.hid (show w.heap.size + 1 < ((w.alloc (.cells #[.string z.id, .string z.fl, .int .i64 z.nu, .string z.ve.1, .int .i64 z.ve.2.1, .int .i64 z.ve.2.2, .int .i64 z.wd, .int .i64 z.ln, .slice ao n c] 33)).alloc (.cells #[.string ⟨#[]⟩, .string ⟨#[]⟩, .int .i64 0, .string ⟨#[]⟩, .int .i64 0, .int .i64 0, .int .i64 0, .int .i64 0, .slice none 0 0] 33)).heap.size by simp)
  clear ho g1 hxz c0 f0 c1 f1 c2 f2 c3 f3 c4 f4 c5 f5 c6 f6 c7 f7 c8 f8
  obtain ⟨hxz, c0, f0, c1, f1, c2, f2, c3, f3, c4, f4, c5, f5, c6, f6, c7, f7, c8, f8⟩ := cells9_of HX1.out
  have HX2 := Lib.hid (st9 (x0 := .string z.id) (x1 := .string z.fl) (x2 := .int .i64 z.nu) (x3 := .string z.ve.1) (x4 := .int .i64 z.ve.2.1) (x5 := .int .i64 z.ve.2.2) (x6 := .int .i64 z.wd) (x7 := .int .i64 z.ln) (x8 := .slice ao2 z.df.length cc) HX1.out)
  have HB2 := Lib.hid (bel9 (x0 := .string z.id) (x1 := .string z.fl) (x2 := .int .i64 z.nu) (x3 := .string z.ve.1) (x4 := .int .i64 z.ve.2.1) (x5 := .int .i64 z.ve.2.2) (x6 := .int .i64 z.wd) (x7 := .int .i64 z.ln) (x8 := .slice ao2 z.df.length cc) (p := w.heap.size) HG.out (Nat.le_refl _))
  have HP2 := Lib.hid (show ((((((((((w1.setCell ⟨w.heap.size, 0, none⟩ (.string z.id)).setCell ⟨w.heap.size, 1, none⟩ (.string z.fl)).setCell ⟨w.heap.size, 2, none⟩ (.int .i64 z.nu)).setCell ⟨w.heap.size, 3, none⟩ (.string z.ve.1)).setCell ⟨w.heap.size, 4, none⟩ (.int .i64 z.ve.2.1)).setCell ⟨w.heap.size, 5, none⟩ (.int .i64 z.ve.2.2)).setCell ⟨w.heap.size, 6, none⟩ (.int .i64 z.wd)).setCell ⟨w.heap.size, 7, none⟩ (.int .i64 z.ln)).setCell ⟨w.heap.size, 8, none⟩ (.slice ao2 z.df.length cc)).heap[w.heap.size + 1]? = some (.cells #[.string ⟨#[]⟩, .string ⟨#[]⟩, .int .i64 0, .string ⟨#[]⟩, .int .i64 0, .int .i64 0, .int .i64 0, .int .i64 0, .slice none 0 0] 33 (0, 0))) by
    repeat (rw [Below.heap_setCell _ _ _ _ (by simp)])
    exact HP1.out)
  have HO2 := Lib.hid (keep9 (x0 := .string z.id) (x1 := .string z.fl) (x2 := .int .i64 z.nu) (x3 := .string z.ve.1) (x4 := .int .i64 z.ve.2.1) (x5 := .int .i64 z.ve.2.2) (x6 := .int .i64 z.wd) (x7 := .int .i64 z.ln) (x8 := .slice ao2 z.df.length cc) (p := w.heap.size) HO.out (by have := HLT.out; omega))
  have HBS := Lib.hid (show ((w.alloc (.cells #[.string z.id, .string z.fl, .int .i64 z.nu, .string z.ve.1, .int .i64 z.ve.2.1, .int .i64 z.ve.2.2, .int .i64 z.wd, .int .i64 z.ln, .slice ao n c] 33)).alloc (.cells #[.string ⟨#[]⟩, .string ⟨#[]⟩, .int .i64 0, .string ⟨#[]⟩, .int .i64 0, .int .i64 0, .int .i64 0, .int .i64 0, .slice none 0 0] 33)).heap.size = w.heap.size + 1 + 1 by simp)
  rw [HBS.out] at HO2
  go_wp2
  generalize hW2 : ((((((((((w1.setCell ⟨w.heap.size, 0, none⟩ (.string z.id)).setCell ⟨w.heap.size, 1, none⟩ (.string z.fl)).setCell ⟨w.heap.size, 2, none⟩ (.int .i64 z.nu)).setCell ⟨w.heap.size, 3, none⟩ (.string z.ve.1)).setCell ⟨w.heap.size, 4, none⟩ (.int .i64 z.ve.2.1)).setCell ⟨w.heap.size, 5, none⟩ (.int .i64 z.ve.2.2)).setCell ⟨w.heap.size, 6, none⟩ (.int .i64 z.wd)).setCell ⟨w.heap.size, 7, none⟩ (.int .i64 z.ln)).setCell ⟨w.heap.size, 8, none⟩ (.slice ao2 z.df.length cc))) = W2 at *
  clear hW2 hxz c0 f0 c1 f1 c2 f2 c3 f3 c4 f4 c5 f5 c6 f6 c7 f7 c8 f8
  obtain ⟨N, hN⟩ : ∃ N, z.df.length = N := ⟨_, rfl⟩
  have HN := Lib.hid hN
  rw [hN] at HX2 hn6 HO2 ⊢
  have HLN := Lib.hid (mdL_len z)
  have HGT := Lib.hid (fun k (hk : k < z.df.length) => mdL_get z k hk)
  have HST := Lib.hid (fun k (hk : k < z.df.length) => mdL_set z k hk)
  have HML := Lib.hid (mdL_all z)
  have HM0 := Lib.hid (mdL_none z)
  clear hN
  obtain ⟨hxz, c0, f0, c1, f1, c2, f2, c3, f3, c4, f4, c5, f5, c6, f6, c7, f7, c8, f8⟩ := cells9_of HX2.out
  go_wp2
  clear hxz c0 f0 c1 f1 c2 f2 c3 f3 c4 f4 c5 f5 c6 f6 c7 f7 c8 f8
  go_loopw [3, 4, 10] (fun u3 u4 iv wr => ∃ k : Nat, k ≤ N ∧ iv = .int .i64 k ∧ Hid (wr.heap[w.heap.size]? = some (.cells #[.string z.id, .string z.fl, .int .i64 z.nu, .string z.ve.1, .int .i64 z.ve.2.1, .int .i64 z.ve.2.2, .int .i64 z.wd, .int .i64 z.ln, .slice ao2 N cc] 33 (0, 0))) ∧ Hid (wr.heap[w.heap.size + 1]? = some (.cells #[.string ⟨#[]⟩, .string ⟨#[]⟩, .int .i64 0, .string ⟨#[]⟩, .int .i64 0, .int .i64 0, .int .i64 0, .int .i64 0, .slice none 0 0] 33 (0, 0))) ∧ Hid (OwnBx wr (w.heap.size + 1 + 1) (.slice ao2 N cc) (mdL z k)) ∧ Hid (Below w.heap.size w wr)) (fun _ _ i _ => N - (intOf i).toNat)
  case atStart => exact ⟨0, by omega, rfl, HX2, HP2, Lib.hid (by rw [HM0.out]; unfold OwnBx; rw [HN.out]; exact HO2.out), HB2⟩
  case round =>
    obtain ⟨k, hk, rfl, hx, hp, ho, hb⟩ := hrel
    by_cases hlt : k < N
    · have hkz : k < z.df.length := by have := HN.out; omega
      obtain ⟨g, hgg, hg1, hg2, hnl, cur, hcur⟩ := OwnBx.blk ho.out (by rw [HLN.out]; omega)
      subst hgg
      clear hnl
      obtain ⟨ao3, cc3, he3, hv3⟩ := OwnBx.view ho.out
      simp only [Value.slice.injEq] at he3
      have he4 := he3.1
      clear he3
      subst he4
      obtain ⟨bb, hbb, hbx⟩ := hv3.2.resolve_left (by rw [HLN.out]; omega)
      have hgb : g = bb := by simpa using hbb
      subst hgb
      obtain ⟨hbw, v0, v1, v2, v3⟩ := hbx k (by rw [HLN.out]; omega)
      rw [HGT.out k hkz] at v0 v1 v2 v3
      have hbk := boxW_iff.1 (HDF.out k hkz)
      have HGK := Lib.hid (HGT.out k hkz)
      obtain ⟨d, hdd⟩ : ∃ d, z.df.getD k bx0 = d := ⟨_, rfl⟩
      have HMS := Lib.hid (HST.out k hkz)
      rw [hdd] at v0 v1 v2 v3 hbk HGK HMS
      clear hbx hdd hv3 hcur
      obtain ⟨x', y', a', b'⟩ := d
      simp only at v0 v1 v2 v3 hbk
      have hwl := HWL.out
      have hA1 := one_alloc (w := wr) (.cells #[.int .i64 x', .int .i64 y', .int .i64 a', .int .i64 b'] 37)
      have HD1 := Lib.hid (BxAt.ofBox wr x' y' a' b' 37)
      have HX3 := Lib.hid ((hA1.block _ (blk_lt hx.out)).trans hx.out)
      have HP3 := Lib.hid ((hA1.block _ (blk_lt hp.out)).trans hp.out)
      have HO3 := Lib.hid (OwnBx.below ho.out hA1)
      have HB3 := Lib.hid (bseq hb.out hA1)
      have HDL := Lib.hid (show wr.heap.size ≠ g by omega)
      obtain ⟨hxz, c0, f0, c1, f1, c2, f2, c3, f3, c4, f4, c5, f5, c6, f6, c7, f7, c8, f8⟩ := cells9_of hx.out
      go_wp2
      generalize hwq : wr.alloc (.cells #[.int .i64 x', .int .i64 y', .int .i64 a', .int .i64 b'] 37) = w3 at *
      have HWQ := Lib.hid hwq
      clear hwq hxz c0 f0 c1 f1 c2 f2 c3 f3 c4 f4 c5 f5 c6 f6 c7 f7 c8 f8 v0 v1 v2 v3 hbw hA1
      obtain ⟨hxz, c0, f0, c1, f1, c2, f2, c3, f3, c4, f4, c5, f5, c6, f6, c7, f7, c8, f8⟩ := cells9_of HX3.out
      obtain ⟨hdw, e0, e1, e2, e3⟩ := HD1.out
      simp only [Nat.zero_add] at e1 e2 e3
      have i1 : IntKind.i64.wrap (z.wd - (x' + a')) = z.wd - (x' + a') := IntWalk.i64_in _ (by omega)
      refine wp_region_plan_tail 1 [10] [.val 0 [] (.pointer (some ⟨w.heap.size, 8, none⟩)), .val 1 [] (.slice (some ⟨g, 0, none⟩) N cc), .val 2 [] (.int .i64 k), .val 3 [] (.pointer (some ⟨w.heap.size, 6, none⟩)), .val 4 [] (.int .i64 z.wd), .val 5 [] (.agg #[.int .i64 x', .int .i64 y', .int .i64 a', .int .i64 b']), .val 6 [] (.int .i64 (x' + a')), .val 7 [] (.int .i64 (z.wd - (x' + a'))), .val 8 [] (.pointer (some ⟨g, k * 4, none⟩)), .val 9 [] (.pointer (some ⟨g, k * 4, none⟩))] (by kernel_rfl) (by kernel_rfl) rfl ?_
      refine plan_val (by kernel_rfl) (by kernel_rfl) (by kernel_rfl) (by go_simp) (fun w1 hw1 => ?_) ?_
      · obtain ⟨hc, hf⟩ := bcell hw1; clear hw1; go_simp; (try with_reducible rfl)
      (try simp only [Act.put, List.setIfInBounds_toArray, List.set_cons_zero, List.set_cons_succ])
      refine plan_val (by kernel_rfl) (by kernel_rfl) (by kernel_rfl) (by go_simp) (fun w1 hw1 => ?_) ?_
      · obtain ⟨hc, hf⟩ := bcell hw1; clear hw1; go_simp; (try with_reducible rfl)
      (try simp only [Act.put, List.setIfInBounds_toArray, List.set_cons_zero, List.set_cons_succ])
      refine plan_val (by kernel_rfl) (by kernel_rfl) (by kernel_rfl) (by go_simp) (fun w1 hw1 => ?_) ?_
      · obtain ⟨hc, hf⟩ := bcell hw1; clear hw1; go_simp; (try with_reducible rfl)
      (try simp only [Act.put, List.setIfInBounds_toArray, List.set_cons_zero, List.set_cons_succ])
      refine plan_val (by kernel_rfl) (by kernel_rfl) (by kernel_rfl) (by go_simp) (fun w1 hw1 => ?_) ?_
      · obtain ⟨hc, hf⟩ := bcell hw1; clear hw1; go_simp; (try with_reducible rfl)
      (try simp only [Act.put, List.setIfInBounds_toArray, List.set_cons_zero, List.set_cons_succ])
      refine plan_val (by kernel_rfl) (by kernel_rfl) (by kernel_rfl) (by go_simp) (fun w1 hw1 => ?_) ?_
      · obtain ⟨hc, hf⟩ := bcell hw1; clear hw1; go_simp; (try with_reducible rfl)
      (try simp only [Act.put, List.setIfInBounds_toArray, List.set_cons_zero, List.set_cons_succ])
      refine plan_val (by kernel_rfl) (by kernel_rfl) (by kernel_rfl) (by go_simp) (fun w1 hw1 => ?_) ?_
      · obtain ⟨hc, hf⟩ := bcell hw1; clear hw1; go_simp; (try with_reducible rfl)
      (try simp only [Act.put, List.setIfInBounds_toArray, List.set_cons_zero, List.set_cons_succ])
      refine plan_call [] 96 #[.agg #[.int .i64 x', .int .i64 y', .int .i64 a', .int .i64 b']] (by kernel_rfl) (by kernel_rfl) (by kernel_rfl) (by kernel_rfl) (by go_simp) (fun w1 hw1 => ?_) (fun w1 hC => ?_) ?_
      · clear hw1; go_simp; (try with_reducible rfl)
      · exact (right_impl x' y' a' b' w1 (by omega)).mono (fun e w2 h => h)
      (try simp only [Act.put, List.setIfInBounds_toArray, List.set_cons_zero, List.set_cons_succ])
      refine plan_val (by kernel_rfl) (by kernel_rfl) (by kernel_rfl) (by go_simp) (fun w1 hw1 => ?_) ?_
      · obtain ⟨hc, hf⟩ := bcell hw1; clear hw1; go_simp; (try with_reducible rfl)
      (try simp only [Act.put, List.setIfInBounds_toArray, List.set_cons_zero, List.set_cons_succ])
      refine plan_val (by kernel_rfl) (by kernel_rfl) (by kernel_rfl) (by go_simp) (fun w1 hw1 => ?_) ?_
      · obtain ⟨hc, hf⟩ := bcell hw1; clear hw1; go_simp; (try with_reducible rfl)
      (try simp only [Act.put, List.setIfInBounds_toArray, List.set_cons_zero, List.set_cons_succ])
      refine plan_val (by kernel_rfl) (by kernel_rfl) (by kernel_rfl) (by go_simp) (fun w1 hw1 => ?_) ?_
      · obtain ⟨hc, hf⟩ := bcell hw1; clear hw1; go_simp; (try with_reducible rfl)
      (try simp only [Act.put, List.setIfInBounds_toArray, List.set_cons_zero, List.set_cons_succ])
      refine plan_tail_w (by kernel_rfl) (by kernel_rfl) rfl (fun w4 hC => ?_)
      have HO4 := OwnBx.below HO3.out hC.1
      have HS := own_setX (x := z.wd - (x' + a')) HO4 (k := k) (by rw [HLN.out]; exact hkz)
      rw [HGK.out] at HS
      have HS4 := Lib.hid (show OwnBx (w4.setCell ⟨g, k * 4, none⟩ (.int .i64 (z.wd - (x' + a')))) (w.heap.size + 1 + 1) (.slice (some ⟨g, 0, none⟩) N cc) (mdL z (k + 1)) by rw [← HMS.out]; exact HS)
      obtain ⟨ao3, cc3, he3, hv3⟩ := OwnBx.view HO4
      simp only [Value.slice.injEq] at he3
      have he4 := he3.1
      clear he3
      subst he4
      obtain ⟨bb, hbb, hbx⟩ := hv3.2.resolve_left (by rw [HLN.out]; omega)
      have hgb : g = bb := by simpa using hbb
      subst hgb
      obtain ⟨hbw, v0, _⟩ := hbx k (by rw [HLN.out]; omega)
      obtain ⟨g2, hgg2, _, _, hnl, cur, hcur⟩ := OwnBx.blk HO4 (by rw [HLN.out]; omega)
      have hgg3 : g = g2 := by simpa using hgg2
      subst hgg3
      clear hnl hgg2
      have hfr := fr_blk hcur (k * 4)
      have HX5 := Lib.hid ((Below.heap_setCell w4 ⟨g, k * 4, none⟩ (.int .i64 (z.wd - (x' + a'))) w.heap.size (by simp; omega)).trans ((hC.1.block _ (blk_lt HX3.out)).trans HX3.out))
      have HP5 := Lib.hid ((Below.heap_setCell w4 ⟨g, k * 4, none⟩ (.int .i64 (z.wd - (x' + a'))) (w.heap.size + 1) (by simp; omega)).trans ((hC.1.block _ (blk_lt HP3.out)).trans HP3.out))
      have HB5 := Lib.hid ((bseq HB3.out hC.1).setCell (p := ⟨g, k * 4, none⟩) (by show w.heap.size ≤ g; omega) (.int .i64 (z.wd - (x' + a'))))
      clear hC HO4 HS hbx hv3 hcur hxz c0 f0 c1 f1 c2 f2 c3 f3 c4 f4 c5 f5 c6 f6 c7 f7 c8 f8 hdw e0 e1 e2 e3
      gi_wp2
      go_wp2
      go_roundw
      case rel => exact ⟨k + 1, by omega, by go_num, HX5, HP5, HS4, HB5⟩
      case measure => simp [intOf]; omega
    · obtain rfl : k = N := by omega
      have hgr := HG0.out
      have i1 : IntKind.i64.wrap (180 - z.ve.2.2) = 180 - z.ve.2.2 := IntWalk.i64_in _ (by omega)
      have i2 : (180 - z.ve.2.2).tmod 180 = mirG z.ve.2.2 := Int.tmod_eq_emod_of_nonneg (by omega)
      have i3 : IntKind.i64.wrap (mirG z.ve.2.2) = mirG z.ve.2.2 := IntWalk.i64_in _ (by have := mirG_rng hgr.1 hgr.2; omega)
      have HMZ := Lib.hid (show mdL z k = (mirZ z).df by rw [← HML.out, HN.out])
      obtain ⟨hxz, c0, f0, c1, f1, c2, f2, c3, f3, c4, f4, c5, f5, c6, f6, c7, f7, c8, f8⟩ := cells9_of hx.out
      obtain ⟨hpz, d0, q0, d1, q1, d2, q2, d3, q3, d4, q4, d5, q5, d6, q6, d7, q7, d8, q8⟩ := cells9_of hp.out
      have HP5 := Lib.hid ((Below.heap_setCell wr ⟨w.heap.size, 5, none⟩ (.int .i64 (mirG z.ve.2.2)) (w.heap.size + 1) (by simp)).trans hp.out)
      have HB5 := Lib.hid (hb.out.setCell (p := ⟨w.heap.size, 5, none⟩) (Nat.le_refl _) (.int .i64 (mirG z.ve.2.2)))
      have HO5 := Lib.hid (keep_set ho.out ⟨w.heap.size, 5, none⟩ (.int .i64 (mirG z.ve.2.2)) (by show w.heap.size < _; omega))
      clear hgr
      go_wp2
      have hq := st9 (x0 := .string (mirZ z).id) (x1 := .string (mirZ z).fl) (x2 := .int .i64 (mirZ z).nu) (x3 := .string (mirZ z).ve.1) (x4 := .int .i64 (mirZ z).ve.2.1) (x5 := .int .i64 (mirZ z).ve.2.2) (x6 := .int .i64 (mirZ z).wd) (x7 := .int .i64 (mirZ z).ln) (x8 := .slice ao2 k cc) HP5.out
      have HBL := Lib.hid (bel9 (x0 := .string (mirZ z).id) (x1 := .string (mirZ z).fl) (x2 := .int .i64 (mirZ z).nu) (x3 := .string (mirZ z).ve.1) (x4 := .int .i64 (mirZ z).ve.2.1) (x5 := .int .i64 (mirZ z).ve.2.2) (x6 := .int .i64 (mirZ z).wd) (x7 := .int .i64 (mirZ z).ln) (x8 := .slice ao2 k cc) (p := w.heap.size + 1) HB5.out (by omega))
      have HOF := Lib.hid (own_lower (keep9 (x0 := .string (mirZ z).id) (x1 := .string (mirZ z).fl) (x2 := .int .i64 (mirZ z).nu) (x3 := .string (mirZ z).ve.1) (x4 := .int .i64 (mirZ z).ve.2.1) (x5 := .int .i64 (mirZ z).ve.2.2) (x6 := .int .i64 (mirZ z).wd) (x7 := .int .i64 (mirZ z).ln) (x8 := .slice ao2 k cc) (p := w.heap.size + 1) HO5.out (by omega)) (by omega : w.heap.size ≤ _))
      rw [HMZ.out] at HOF
      clear q0 q1 q2 q3 q4 q5 q6 q7 q8
      obtain ⟨_, q0, _, q1, _, q2, _, q3, _, q4, _, q5, _, q6, _, q7, _, q8, _⟩ := cells9_of hq
      rw [HN.out]
      refine bodyPost_ret (v := .agg #[.string (mirZ z).id, .string (mirZ z).fl, .int .i64 (mirZ z).nu, .string (mirZ z).ve.1, .int .i64 (mirZ z).ve.2.1, .int .i64 (mirZ z).ve.2.2, .int .i64 (mirZ z).wd, .int .i64 (mirZ z).ln, .slice ao2 k cc]) ?_ rfl ⟨ao2, cc, rfl, ?_, HBL.out⟩
      · clear hq c0 f0 c1 f1 c2 f2 c3 f3 c4 f4 c5 f5 c6 f6 c7 f7 c8 f8 d0 d1 d2 d3 d4 d5 d6 d7 d8
        unfold mirZ at q0 q1 q2 q3 q4 q5 q6 q7 q8 ⊢
        generalize World.setCell _ _ _ = W' at *
        simp [results, Tryd.results63, go_sem, q0, q1, q2, q3, q4, q5, q6, q7, q8]
      · have := HOF.out
        unfold OwnBx
        have e : (mirZ z).df.length = k := by rw [← HMZ.out, HLN.out, HN.out]
        rw [e]; rw [e] at this
        exact this
end Go.Proofs.YtcjpplijbdfgbaaDoor
