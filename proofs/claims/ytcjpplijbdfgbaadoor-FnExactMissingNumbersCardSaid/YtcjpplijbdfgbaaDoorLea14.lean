/- Leaves of a flitch in their sequence: impl. -/
import Derived.Test.YtcjpplijbdfgbaaDoorSrtI
import Derived.Test.YtcjpplijbdfgbaaDoorWhFlitch
import Derived.Test.YtcjpplijbdfgbaaDoorWcFlitchOf
import Derived.Test.YtcjpplijbdfgbaaDoorK18
namespace Go.Proofs.YtcjpplijbdfgbaaDoor
open Seq2 Go.ChangeShapes Go.WideShapes Go.ChangeAt Go.RowKit Go.Sort Go.Shelf
set_option linter.unusedVariables false
set_option linter.unusedSimpArgs false

set_option maxRecDepth 100000 in
set_option maxHeartbeats 1000000 in
theorem clo_fl (v : Value) (z : Lf) (q : Nat) (sp : ByteArray) (w : World) (hv : LfV w v z) (hq : q < w.heap.size) (hc : w.cell? ⟨q, 0, none⟩ = some (.string sp)) :
    Calls Tryd.prog 126 #[v, .pointer (some ⟨q, 0, none⟩)] w fun e w' => e = .returned (.bool (eqS z.fl sp)) ∧ Below w.heap.size w w' := by
  obtain ⟨ao, n, c, rfl, _, _, _, _, _, _, _, hn, hd⟩ := hv.out
  clear hv hd
  unfold eqS
  go_enter Tryd.func126, Tryd.ntmps126
  go_wp2
  go_ret
  exact ⟨rfl, one_alloc _⟩
set_option maxRecDepth 100000 in
set_option maxHeartbeats 4000000 in
theorem clo_cm (q x y : Nat) (ao : Option Addr) (n c : Nat) (zs : List Lf) (w : World) (hx : x < n) (hy : y < n) (hv : LfsV w ao n zs) (hq : q < w.heap.size) (hc : w.cell? ⟨q, 0, none⟩ = some (.slice ao n c)) :
    Calls Tryd.prog 128 #[.int .i64 x, .int .i64 y, .pointer (some ⟨q, 0, none⟩)] w fun e w' => e = .returned (.int .i64 (cmpI (zs.getD x lf0).nu (zs.getD y lf0).nu)) ∧ ∃ m, w' = w.drewN m := by
  obtain ⟨b, rfl, hcs⟩ := hv.2.resolve_left (by omega)
  obtain ⟨v1, h1, a1⟩ := hcs x hx
  obtain ⟨v2, h2, a2⟩ := hcs y hy
  obtain ⟨ao6, n6, c6, rfl, _, _, _, _, _, _, _, _, _⟩ := h1.out
  obtain ⟨ao7, n7, c7, rfl, _, _, _, _, _, _, _, _, _⟩ := h2.out
  have d1 : w.cell? ⟨b, x * 9 + 2, none⟩ = some (.int .i64 (zs.getD x lf0).nu) := a1.at 2 rfl
  have d2 : w.cell? ⟨b, y * 9 + 2, none⟩ = some (.int .i64 (zs.getD y lf0).nu) := a2.at 2 rfl
  have hbw := a1.1
  obtain ⟨s1, e1⟩ : ∃ s, (zs.getD x lf0).nu = s := ⟨_, rfl⟩
  obtain ⟨s2, e2⟩ : ∃ s, (zs.getD y lf0).nu = s := ⟨_, rfl⟩
  rw [e1] at d1 ⊢
  rw [e2] at d2 ⊢
  have hxi : (x : Int) < (n : Int) := by omega
  have hyi : (y : Int) < (n : Int) := by omega
  clear hv hcs h1 h2 a1 a2 e1 e2
  go_enter Tryd.func128, Tryd.ntmps128
  go_wp2_with fail
  go_quiet (first | (go_at_call 129; refine Calls.quiet_of_same (cmp64 _ _ _)))
  go_wp2_with fail
  go_ret
  exact ⟨rfl, nq, rfl⟩
theorem srtF_len (f : Int → Int) (L : List Int) : (srtF f L).length = L.length := by
  have h : ∀ (L M : List Int), (L.foldl (insF f) M).length = M.length + L.length := by
    intro L
    induction L with
    | nil => intro M; simp
    | cons x r ih => intro M; rw [List.foldl_cons, ih, insF_len, List.length_cons]; omega
  have := h L []
  simpa [srtF] using this
set_option maxRecDepth 100000 in
set_option maxHeartbeats 1000000 in
theorem ins_own (q g cap base m : Nat) (ao : Option Addr) (c : Nat) (zs : List Lf) (L : List Int) (w w0 : World) (hin : ∀ y ∈ L, ∃ j : Nat, j < m + 1 ∧ y = (j : Int)) (hL : L.length ≤ 1000) (h0 : 0 < L.length)
    (hown : OwnI w base (.slice (some ⟨g, 0, none⟩) L.length cap) L) (hv : LfsV w0 ao (m + 1) zs) (hq : w0.heap[q]? = some (.cells #[.slice ao (m + 1) c] 101 (0, 0))) (hb : Below w0.heap.size w0 w) (hbase : w0.heap.size ≤ base) :
    Calls Tryd.prog 136 #[.slice (some ⟨g, 0, none⟩) L.length cap, .int .i64 0, .int .i64 L.length, .func (.func 128) #[] #[.pointer (some ⟨q, 0, none⟩)]] w
      fun e w' => e = .returned (.tuple #[]) ∧ OwnI w' base (.slice (some ⟨g, 0, none⟩) L.length cap) (srtF (nuL zs) L) ∧ w.grownBy w' (some g) := by
  obtain ⟨ss, rfl⟩ := to_fin hin
  have hg := (World.ownsRow.lt hown g rfl).1
  obtain ⟨_, ⟨e, _⟩ | ⟨g', cap', cur, e, _, hg2, hn1, hcap, hsz, ht⟩⟩ := hown
  · cases e
  cases e
  rw [List.length_map] at hL h0 hn1 ht ⊢
  have hfl : flatI (ss.map (valF m)) = ss.map (encF m) := by simp [flatI, encF_eq, Function.comp_def]
  have hH : Holds (encF m) w g 0 ss.toArray := holds_of_blockF hg2 (by rw [Nat.mul_one, hfl] at ht; exact ht)
  have eg : ∀ args w, (callFunc 128 args).run Tryd.prog w = .ok (.enter 128 args) w := enters_of Tryd.func128 (by kernel_rfl) rfl
  have hcmp : CmpReads Tryd.prog 128 #[.pointer (some ⟨q, 0, none⟩)] (encF m) (fun x y => cmpI (zs.getD x.val lf0).nu (zs.getD y.val lf0).nu) g 0 ss.toArray.size w := by
    intro k os dk _ x y
    have hB : Below w0.heap.size w0 (sortWorld (encF m) w g 0 k dk os) := hb.grown (grownBy_sortedF (n := k) (os := os) dk) hb.size (fun k hk => by cases hk; omega)
    have hq2 := (hB.block _ (blk_lt hq)).trans hq
    exact clo_cm q x.val y.val ao (m + 1) c zs _ x.isLt y.isLt (hv.below hB) (blk_lt hq2) (cell_of_arr hq2 (j := 0) rfl).1
  have h := Any.insertionSortCmpFunc_one Tryd.insI (encF m) (fun _ => rfl) (fun x y => cmpI (zs.getD x.val lf0).nu (zs.getD y.val lf0).nu) _ _ g 0 cap 0 ss.toArray.size ss.toArray w eg hcmp hH (Nat.zero_le _) (Nat.le_refl _) (by simp; omega)
  have hs := sort_list (ltOf (fun (x y : Fin (m + 1)) => cmpI (zs.getD x.val lf0).nu (zs.getD y.val lf0).nu)) (valF m) (nuL zs) (fun x y => by rw [ltOf, cmpI_neg]; simp [nuL, valF]) ss.toArray (by simpa using h0)
  obtain ⟨d, hd⟩ : ∃ d, insertionSort (ltOf (fun (x y : Fin (m + 1)) => cmpI (zs.getD x.val lf0).nu (zs.getD y.val lf0).nu)) ss.toArray 0 ss.toArray.size = d := ⟨_, rfl⟩
  rw [hd] at h hs
  have hs2 : d.toList.map (valF m) = srtF (nuL zs) (ss.map (valF m)) := by simpa using hs
  have hl : d.toList.length = ss.length := by
    have := congrArg List.length hs2
    rw [srtF_len] at this
    simpa using this
  clear hs hd hcmp eg
  have e3 : ss.toArray.size = ss.length := by simp
  rw [e3] at h
  refine Calls.mono h ?_
  rintro e w' ⟨rfl, n, rfl⟩
  rw [← sortWorld_none]
  refine ⟨rfl, ?_, grownBy_sortedF d⟩
  have ho := ownsRow_sortedF (n := n) (os := #[]) hl hg hg2 hn1 hcap hsz
  rw [Array.toArray_toList] at ho
  unfold OwnI
  rw [srtF_len, List.length_map, ← hs2]
  have hf2 : flatI (d.toList.map (valF m)) = d.toList.map (encF m) := by simp [flatI, encF_eq, Function.comp_def]
  rw [hf2]
  exact ho
end Go.Proofs.YtcjpplijbdfgbaaDoor
