/- Several texts in one: WcFlitchOf, WhFlitch, Lea14, Lea15. -/
import Derived.Test.YtcjpplijbdfgbaaDoorK18
import Derived.Test.YtcjpplijbdfgbaaDoorSeq3
import Derived.Test.YtcjpplijbdfgbaaDoorLea11
import Derived.Test.YtcjpplijbdfgbaaDoorSrtI
namespace Go.Proofs.YtcjpplijbdfgbaaDoor
open Seq2 Go.ChangeShapes Go.WideShapes Go.ChangeAt Go.RowKit
set_option linter.unusedVariables false
set_option linter.unusedSimpArgs false

set_option maxRecDepth 100000 in
set_option maxHeartbeats 1000000 in
theorem wc_FlitchOf_1_no (fv : Value) (w : World) : Calls Tryd.prog 75 #[.bool false, fv] w fun e w' => e = .returned (.tuple #[.slice none 0 0, .int .i64 1]) ∧ w = w' := by
  go_enter Tryd.func75, Tryd.ntmps75
  go_wp2
  go_ret2
  exact ⟨rfl, rfl⟩
end Go.Proofs.YtcjpplijbdfgbaaDoor
namespace Go.Proofs.YtcjpplijbdfgbaaDoor
open Seq2 Go.ChangeShapes Go.WideShapes Go.ChangeAt Go.RowKit
set_option linter.unusedVariables false
set_option linter.unusedSimpArgs false

set_option maxRecDepth 100000 in
set_option maxHeartbeats 4000000 in
theorem where_ofFlitch_1 (k0 : Value) (p : Nat → Bool) (ao : Option Addr) (n c : Nat) (zs : List Lf) (w : World) (hn : n ≤ 16) (hv : LfsV w ao n zs)
    (hc : ∀ j v w', j < n → Below w.heap.size w w' → LfV w' v (zs.getD j lf0) → Calls Tryd.prog 126 #[v, k0] w' fun e w'' => e = .returned (.bool (p j)) ∧ Below w'.heap.size w' w'') :
    Calls Tryd.prog 125 #[.slice ao n c, .func (.func 126) #[] #[k0]] w fun e w' => ∃ v, e = .returned v ∧ OwnI w' w.heap.size v (plL p n) ∧ Below w.heap.size w w' := by
  have HV := Lib.hid hv
  have HC := Lib.hid hc
  clear hv hc
  obtain ⟨i0, hi, hz0, hz1, hz2⟩ := info_parts infoI
  go_enter Tryd.func125, Tryd.ntmps125
  go_wp2
  go_loopw [10, 5, 6] (fun iv v u wr => ∃ k : Nat, k ≤ n ∧ iv = .int .i64 k ∧ Hid (OwnI wr w.heap.size v (plL p k)) ∧ Hid (Below w.heap.size w wr)) (fun i _ _ _ => n - (intOf i).toNat)
  case atStart => exact ⟨0, by omega, rfl, Lib.hid (World.ownsRow_nil _ _ _ _), Lib.hid (Below.refl _ _)⟩
  case round =>
    obtain ⟨k, hk, rfl, ho, hb⟩ := hrel
    have hlen := plL_len p k
    have hle := hb.out.size
    by_cases hlt : k < n
    · obtain ⟨b, rfl, hcs⟩ := (HV.out.below hb.out).2.resolve_left (by omega)
      obtain ⟨v', hva, ha⟩ := hcs k hlt
      have HVA := Lib.hid hva
      obtain ⟨z, hz⟩ : ∃ z, zs.getD k lf0 = z := ⟨_, rfl⟩
      have HZK := Lib.hid hz
      rw [hz] at hva
      clear hz
      obtain ⟨ao6, n6, c6, rfl, _, _, _, _, _, _, _, _, _⟩ := hva.out
      have c0 : wr.cell? ⟨b, k * 9, none⟩ = some (.string z.id) := ha.at 0 rfl
      have c1 : wr.cell? ⟨b, k * 9 + 1, none⟩ = some (.string z.fl) := ha.at 1 rfl
      have c2 : wr.cell? ⟨b, k * 9 + 2, none⟩ = some (.int .i64 z.nu) := ha.at 2 rfl
      have c3 : wr.cell? ⟨b, k * 9 + 3, none⟩ = some (.string z.ve.1) := ha.at 3 rfl
      have c4 : wr.cell? ⟨b, k * 9 + 4, none⟩ = some (.int .i64 z.ve.2.1) := ha.at 4 rfl
      have c5 : wr.cell? ⟨b, k * 9 + 5, none⟩ = some (.int .i64 z.ve.2.2) := ha.at 5 rfl
      have c6' : wr.cell? ⟨b, k * 9 + 6, none⟩ = some (.int .i64 z.wd) := ha.at 6 rfl
      have c7 : wr.cell? ⟨b, k * 9 + 7, none⟩ = some (.int .i64 z.ln) := ha.at 7 rfl
      have c8 : wr.cell? ⟨b, k * 9 + 8, none⟩ = some (.slice ao6 n6 c6) := ha.at 8 rfl
      have hbw := ha.1
      have HA1 := Lib.hid (one_alloc (w := wr) (.cells #[.string z.id, .string z.fl, .int .i64 z.nu, .string z.ve.1, .int .i64 z.ve.2.1, .int .i64 z.ve.2.2, .int .i64 z.wd, .int .i64 z.ln, .slice ao6 n6 c6] 33))
      have HB1 := Lib.hid (hb.out.trans (HA1.out.mono hle))
      have HO1 := Lib.hid (ho.out.below HA1.out)
      have HCK := Lib.hid (HC.out k _ _ hlt HB1.out (HVA.out.below HA1.out))
      clear hcs hva ha HZK HVA
      cases hp : p k with
      | true =>
        rw [hp] at HCK
        go_wp2_with fail
        refine (HCK.out).mono ?_
        rintro e w1 ⟨rfl, g1⟩
        have hb1 := bseq HB1.out g1
        have hown := (HO1.out.below g1)
        have HB2 := Lib.hid hb1
        have hle1 := hb1.size
        clear g1 hb1 c0 c1 c2 c3 c4 c5 c6' c7 c8 hbw
        unfold OwnI at hown
        go_wp2_with (at_builtin; refine wpList_app1 rfl _ _ 55 rfl w.heap.size 2 i0 (.int .i64 0) 8 Tryd.underlying55 hi hz0 hz1 hz2 rfl _ _ _ rfl hown _ rfl (by first | rfl | simp) rfl (by omega) (by omega) hle1 ?_)
        intro v' w4 hown' hgrow
        have HO' := Lib.hid (show OwnI w4 w.heap.size v' (plL p (k + 1)) by rw [plL_yes hp]; exact OwnI.app rfl hown')
        have HB' := Lib.hid (below_app HB2.out (Nat.le_refl _) hle1 hown hgrow)
        clear hown' hgrow hown hp
        go_wp2
        go_roundw
        case rel => exact ⟨k + 1, by omega, by go_num, HO', HB'⟩
        case measure => simp [intOf]; omega
      | false =>
        rw [hp] at HCK
        go_wp2_with fail
        refine (HCK.out).mono ?_
        rintro e w1 ⟨rfl, g1⟩
        have HB' := Lib.hid (bseq HB1.out g1)
        have HO' := Lib.hid (show OwnI w1 w.heap.size _ (plL p (k + 1)) by rw [plL_no hp]; exact (HO1.out.below g1))
        clear g1 c0 c1 c2 c3 c4 c5 c6' c7 c8 hbw hp
        go_wp2
        go_roundw
        case rel => exact ⟨k + 1, by omega, by go_num, HO', HB'⟩
        case measure => simp [intOf]; omega
    · obtain rfl : k = n := by omega
      go_wp2
      go_ret
      exact ⟨_, rfl, ho.out, hb.out⟩
end Go.Proofs.YtcjpplijbdfgbaaDoor
namespace Go.Proofs.YtcjpplijbdfgbaaDoor
open Seq2 Go.ChangeShapes Go.WideShapes Go.ChangeAt Go.RowKit Go.Sort Go.Shelf
set_option linter.unusedVariables false
set_option linter.unusedSimpArgs false

set_option maxRecDepth 100000 in
set_option maxHeartbeats 1000000 in
theorem clo_fl (v : Value) (z : Lf) (q : Nat) (sp : ByteArray) (w : World) (hv : LfV w v z) (hq : q < w.heap.size) (hc : w.cell? ⟨q, 0, none⟩ = some (.string sp)) :
    Calls Tryd.prog 126 #[v, .pointer (some ⟨q, 0, none⟩)] w fun e w' => e = .returned (.bool (eqS z.fl sp)) ∧ Below w.heap.size w w' := by
  obtain ⟨ao, n, c, rfl, _, _, _, _, _, _, _, hn, hd⟩ := hv.out
  clear hv hd
  unfold eqS
  go_enter Tryd.func126, Tryd.ntmps126
  go_wp2
  go_ret
  exact ⟨rfl, one_alloc _⟩
set_option maxRecDepth 100000 in
set_option maxHeartbeats 4000000 in
theorem clo_cm (q x y : Nat) (ao : Option Addr) (n c : Nat) (zs : List Lf) (w : World) (hx : x < n) (hy : y < n) (hv : LfsV w ao n zs) (hq : q < w.heap.size) (hc : w.cell? ⟨q, 0, none⟩ = some (.slice ao n c)) :
    Calls Tryd.prog 128 #[.int .i64 x, .int .i64 y, .pointer (some ⟨q, 0, none⟩)] w fun e w' => e = .returned (.int .i64 (cmpI (zs.getD x lf0).nu (zs.getD y lf0).nu)) ∧ ∃ m, w' = w.drewN m := by
  obtain ⟨b, rfl, hcs⟩ := hv.2.resolve_left (by omega)
  obtain ⟨v1, h1, a1⟩ := hcs x hx
  obtain ⟨v2, h2, a2⟩ := hcs y hy
  obtain ⟨ao6, n6, c6, rfl, _, _, _, _, _, _, _, _, _⟩ := h1.out
  obtain ⟨ao7, n7, c7, rfl, _, _, _, _, _, _, _, _, _⟩ := h2.out
  have d1 : w.cell? ⟨b, x * 9 + 2, none⟩ = some (.int .i64 (zs.getD x lf0).nu) := a1.at 2 rfl
  have d2 : w.cell? ⟨b, y * 9 + 2, none⟩ = some (.int .i64 (zs.getD y lf0).nu) := a2.at 2 rfl
  have hbw := a1.1
  obtain ⟨s1, e1⟩ : ∃ s, (zs.getD x lf0).nu = s := ⟨_, rfl⟩
  obtain ⟨s2, e2⟩ : ∃ s, (zs.getD y lf0).nu = s := ⟨_, rfl⟩
  rw [e1] at d1 ⊢
  rw [e2] at d2 ⊢
  have hxi : (x : Int) < (n : Int) := by omega
  have hyi : (y : Int) < (n : Int) := by omega
  clear hv hcs h1 h2 a1 a2 e1 e2
  go_enter Tryd.func128, Tryd.ntmps128
  go_wp2_with fail
  go_quiet (first | (go_at_call 129; refine Calls.quiet_of_same (cmp64 _ _ _)))
  go_wp2_with fail
  go_ret
  exact ⟨rfl, nq, rfl⟩
theorem srtF_len (f : Int → Int) (L : List Int) : (srtF f L).length = L.length := by
  have h : ∀ (L M : List Int), (L.foldl (insF f) M).length = M.length + L.length := by
    intro L
    induction L with
    | nil => intro M; simp
    | cons x r ih => intro M; rw [List.foldl_cons, ih, insF_len, List.length_cons]; omega
  have := h L []
  simpa [srtF] using this
set_option maxRecDepth 100000 in
set_option maxHeartbeats 1000000 in
theorem ins_own (q g cap base m : Nat) (ao : Option Addr) (c : Nat) (zs : List Lf) (L : List Int) (w w0 : World) (hin : ∀ y ∈ L, ∃ j : Nat, j < m + 1 ∧ y = (j : Int)) (hL : L.length ≤ 1000) (h0 : 0 < L.length)
    (hown : OwnI w base (.slice (some ⟨g, 0, none⟩) L.length cap) L) (hv : LfsV w0 ao (m + 1) zs) (hq : w0.heap[q]? = some (.cells #[.slice ao (m + 1) c] 101 (0, 0))) (hb : Below w0.heap.size w0 w) (hbase : w0.heap.size ≤ base) :
    Calls Tryd.prog 136 #[.slice (some ⟨g, 0, none⟩) L.length cap, .int .i64 0, .int .i64 L.length, .func (.func 128) #[] #[.pointer (some ⟨q, 0, none⟩)]] w
      fun e w' => e = .returned (.tuple #[]) ∧ OwnI w' base (.slice (some ⟨g, 0, none⟩) L.length cap) (srtF (nuL zs) L) ∧ w.grownBy w' (some g) := by
  obtain ⟨ss, rfl⟩ := to_fin hin
  have hg := (World.ownsRow.lt hown g rfl).1
  obtain ⟨_, ⟨e, _⟩ | ⟨g', cap', cur, e, _, hg2, hn1, hcap, hsz, ht⟩⟩ := hown
  · cases e
  cases e
  rw [List.length_map] at hL h0 hn1 ht ⊢
  have hfl : flatI (ss.map (valF m)) = ss.map (encF m) := by simp [flatI, encF_eq, Function.comp_def]
  have hH : Holds (encF m) w g 0 ss.toArray := holds_of_blockF hg2 (by rw [Nat.mul_one, hfl] at ht; exact ht)
  have eg : ∀ args w, (callFunc 128 args).run Tryd.prog w = .ok (.enter 128 args) w := enters_of Tryd.func128 (by kernel_rfl) rfl
  have hcmp : CmpReads Tryd.prog 128 #[.pointer (some ⟨q, 0, none⟩)] (encF m) (fun x y => cmpI (zs.getD x.val lf0).nu (zs.getD y.val lf0).nu) g 0 ss.toArray.size w := by
    intro k os dk _ x y
    have hB : Below w0.heap.size w0 (sortWorld (encF m) w g 0 k dk os) := hb.grown (grownBy_sortedF (n := k) (os := os) dk) hb.size (fun k hk => by cases hk; omega)
    have hq2 := (hB.block _ (blk_lt hq)).trans hq
    exact clo_cm q x.val y.val ao (m + 1) c zs _ x.isLt y.isLt (hv.below hB) (blk_lt hq2) (cell_of_arr hq2 (j := 0) rfl).1
  have h := Any.insertionSortCmpFunc_one Tryd.insI (encF m) (fun _ => rfl) (fun x y => cmpI (zs.getD x.val lf0).nu (zs.getD y.val lf0).nu) _ _ g 0 cap 0 ss.toArray.size ss.toArray w eg hcmp hH (Nat.zero_le _) (Nat.le_refl _) (by simp; omega)
  have hs := sort_list (ltOf (fun (x y : Fin (m + 1)) => cmpI (zs.getD x.val lf0).nu (zs.getD y.val lf0).nu)) (valF m) (nuL zs) (fun x y => by rw [ltOf, cmpI_neg]; simp [nuL, valF]) ss.toArray (by simpa using h0)
  obtain ⟨d, hd⟩ : ∃ d, insertionSort (ltOf (fun (x y : Fin (m + 1)) => cmpI (zs.getD x.val lf0).nu (zs.getD y.val lf0).nu)) ss.toArray 0 ss.toArray.size = d := ⟨_, rfl⟩
  rw [hd] at h hs
  have hs2 : d.toList.map (valF m) = srtF (nuL zs) (ss.map (valF m)) := by simpa using hs
  have hl : d.toList.length = ss.length := by
    have := congrArg List.length hs2
    rw [srtF_len] at this
    simpa using this
  clear hs hd hcmp eg
  have e3 : ss.toArray.size = ss.length := by simp
  rw [e3] at h
  refine Calls.mono h ?_
  rintro e w' ⟨rfl, n, rfl⟩
  rw [← sortWorld_none]
  refine ⟨rfl, ?_, grownBy_sortedF d⟩
  have ho := ownsRow_sortedF (n := n) (os := #[]) hl hg hg2 hn1 hcap hsz
  rw [Array.toArray_toList] at ho
  unfold OwnI
  rw [srtF_len, List.length_map, ← hs2]
  have hf2 : flatI (d.toList.map (valF m)) = d.toList.map (encF m) := by simp [flatI, encF_eq, Function.comp_def]
  rw [hf2]
  exact ho
end Go.Proofs.YtcjpplijbdfgbaaDoor
namespace Go.Proofs.YtcjpplijbdfgbaaDoor
open Seq2 Go.ChangeShapes Go.WideShapes Go.ChangeAt Go.RowKit Go.Sort Go.Shelf
set_option linter.unusedVariables false
set_option linter.unusedSimpArgs false

set_option maxRecDepth 100000 in
set_option maxHeartbeats 4000000 in
theorem stable_own (q g cap base m : Nat) (ao : Option Addr) (c : Nat) (zs : List Lf) (L : List Int) (w w0 : World) (hin : ∀ y ∈ L, ∃ j : Nat, j < m + 1 ∧ y = (j : Int)) (hL : L.length ≤ 16) (h0 : 0 < L.length)
    (hown : OwnI w base (.slice (some ⟨g, 0, none⟩) L.length cap) L) (hv : LfsV w0 ao (m + 1) zs) (hq : w0.heap[q]? = some (.cells #[.slice ao (m + 1) c] 101 (0, 0))) (hb : Below w0.heap.size w0 w) (hbase : w0.heap.size ≤ base) :
    Calls Tryd.prog 127 #[.slice (some ⟨g, 0, none⟩) L.length cap, .func (.func 128) #[] #[.pointer (some ⟨q, 0, none⟩)]] w
      fun e w' => e = .returned (.tuple #[]) ∧ OwnI w' base (.slice (some ⟨g, 0, none⟩) L.length cap) (srtF (nuL zs) L) ∧ w.grownBy w' (some g) := by
  have HC := Lib.hid (ins_own q g cap base m ao c zs L w w0 hin (by omega) h0 hown hv hq hb hbase)
  obtain ⟨len, hlen⟩ : ∃ l, L.length = l := ⟨_, rfl⟩
  rw [hlen] at HC hL ⊢
  clear hin h0 hown hv hq hb hbase hlen
  have HST := Lib.hid (show Calls Tryd.prog 134 #[.slice (some ⟨g, 0, none⟩) len cap, .int .i64 len, .func (.func 128) #[] #[.pointer (some ⟨q, 0, none⟩)]] w
      fun e w' => e = .returned (.tuple #[]) ∧ OwnI w' base (.slice (some ⟨g, 0, none⟩) len cap) (srtF (nuL zs) L) ∧ w.grownBy w' (some g) by
    have e1 : decide ((20 : Int) ≤ (len : Int)) = false := by simp; omega
    have e2 : decide ((20 : Int) < (len : Int)) = false := by simp; omega
    have e3 : ¬ 20 ≤ len := by omega
    have e4 : ¬ 20 < len := by omega
    go_enter Tryd.func134, Tryd.ntmps134
    go_wp2
    refine wp_loop_rounds 1 ?_
    rw [rounds_succ]
    go_wp2_with fail
    refine (HC.out).mono ?_
    rintro e w1 ⟨rfl, ho, hg⟩
    have HO := Lib.hid ho
    have HG := Lib.hid hg
    clear ho hg
    go_wp2
    refine wp_loop_rounds 1 ?_
    rw [rounds_succ]
    go_wp2
    go_end0
    exact ⟨rfl, HO.out, HG.out⟩)
  go_enter Tryd.func127, Tryd.ntmps127
  go_wp2_with fail
  refine (HST.out).mono ?_
  rintro e w1 ⟨rfl, ho, hg⟩
  have HO := Lib.hid ho
  have HG := Lib.hid hg
  clear ho hg
  go_wp2
  go_end0
  exact ⟨rfl, HO.out, HG.out⟩
theorem plL_in (p : Nat → Bool) (k : Nat) : ∀ y ∈ plL p k, ∃ j : Nat, j < k ∧ y = (j : Int) := by
  intro y hy
  simp only [plL, List.mem_map, List.mem_filter, List.mem_range] at hy
  obtain ⟨j, ⟨h1, _⟩, rfl⟩ := hy
  exact ⟨j, h1, rfl⟩
theorem OwnI.slc {w : World} {base : Nat} {v : Value} {L : List Int} (h : OwnI w base v L) : ∃ ao cap, v = .slice ao L.length cap := by
  obtain ⟨ao, cap, e, _⟩ := own_sliceI h
  exact ⟨ao, cap, e⟩
set_option maxRecDepth 100000 in
set_option maxHeartbeats 8000000 in
theorem ofl_impl (E : ErrA) (ao : Option Addr) (n c : Nat) (zs : List Lf) (fl : ByteArray) (w : World) (hn : n ≤ 16) (hv : LfsV w ao n zs) (he : Errs w E) :
    Calls Tryd.prog 106 #[.slice ao n c, .string fl] w fun e w' => ((flL zs fl n).length = 0 → e = .returned (.tuple #[.slice none 0 0, esV E.n])) ∧ (¬ (flL zs fl n).length = 0 → ∃ v, e = .returned (.tuple #[v, .nilIface]) ∧ OwnI w' w.heap.size v (flL zs fl n)) ∧ Below w.heap.size w w' := by
  have hA := two_allocs (w := w) (.cells #[.slice ao n c] 101) (.cells #[.string fl] 9)
  have hx := (Below.heap_alloc (w.alloc (.cells #[.slice ao n c] 101)) (.cells #[.string fl] 9) w.heap.size (by simp)).trans (World.alloc_heap_new w (.cells #[.slice ao n c] 101))
  have hp := World.alloc_heap_new (w.alloc (.cells #[.slice ao n c] 101)) (.cells #[.string fl] 9)
  rw [show (w.alloc (.cells #[.slice ao n c] 101)).heap.size = w.heap.size + 1 by simp] at hp
  have HA := Lib.hid hA
  have HX := Lib.hid hx
  have HP := Lib.hid hp
  have HE := Lib.hid (he.below hA)
  have HV := Lib.hid (hv.below hA)
  have HFL := Lib.hid (show flL zs fl n = srtF (nuL zs) (plL (flP zs fl) n) from rfl)
  have HLL := Lib.hid (show (flL zs fl n).length = (plL (flP zs fl) n).length by rw [HFL.out, srtF_len])
  have HL16 := Lib.hid (plL_len (flP zs fl) n)
  have HIN := Lib.hid (plL_in (flP zs fl) n)
  clear hv he hA hx hp
  rw [HLL.out]
  obtain ⟨L, hL⟩ : ∃ L, plL (flP zs fl) n = L := ⟨_, rfl⟩
  rw [hL] at HFL HL16 HIN ⊢
  rw [HFL.out]
  have HPL := Lib.hid hL
  clear hL
  unfold esV
  go_enter Tryd.func106, Tryd.ntmps106
  go_wp2_with fail
  refine (where_ofFlitch_1 _ (flP zs fl) ao n c zs _ hn HV.out (fun j v w' hj hb hl => by
    have hx3 := (hb.block _ (blk_lt HP.out)).trans HP.out
    exact clo_fl v _ (w.heap.size + 1) fl w' hl (blk_lt hx3) (cell_of_arr hx3 (j := 0) rfl).1)).mono ?_
  rintro e w1 ⟨v, rfl, ho, g1⟩
  rw [HPL.out] at ho
  have HO := Lib.hid ho
  have HG := Lib.hid (bseq HA.out g1)
  have HE1 := Lib.hid (HE.out.below g1)
  have HB1 := Lib.hid g1
  by_cases h0 : L.length = 0
  · obtain ⟨ao2, cap2, rfl⟩ := ho.slc
    have h0i : ((L.length : Int) == 0) = true := by rw [beq_iff_eq]; omega
    have HZ := Lib.hid h0
    clear ho g1 h0
    go_wp2
    have c0 := HE1.out.N.cell
    have l0 := HE1.out.N.lt
    refine wp_region_below (by kernel_rfl) (by kernel_rfl) ?_
    repeat (first | (refine wq_val ?_ ?_; (focus (go_simp; done)); apply Exists.intro; refine ⟨fun w1 hw1 => ?_, ?_⟩; (obtain ⟨hc, hf⟩ := bcell hw1; clear hw1; go_simp; (first | done | with_reducible rfl | (with_reducible exact eql2 _ _ _) | (with_reducible exact neq2 _ _ _))); (try simp only [Act.put, List.setIfInBounds_toArray, List.set_cons_zero, List.set_cons_succ])) | (refine wq_skip ?_ ?_; (focus (go_simp; (first | done | (simp [undef]; done)))); (try simp only [Act.put, List.setIfInBounds_toArray, List.set_cons_zero, List.set_cons_succ])))
    refine wq_nil ?_
    intro w2 hb2
    have HB2 := Lib.hid (bseq HG.out hb2)
    clear hb2
    go_wp2
    go_ret2
    exact ⟨fun _ => rfl, fun h => absurd HZ.out h, HB2.out⟩
  · obtain ⟨g, cap, rfl⟩ := ho.some (by omega)
    have h0i : ((L.length : Int) == 0) = false := by rw [beq_eq_false_iff_ne]; omega
    have HZ := Lib.hid h0
    obtain ⟨m, hm⟩ : ∃ m, n = m + 1 := by
      have := HL16.out
      exact ⟨n - 1, by omega⟩
    subst hm
    have HSC := Lib.hid (stable_own w.heap.size g cap ((w.alloc (.cells #[.slice ao (m + 1) c] 101)).alloc (.cells #[.string fl] 9)).heap.size m ao c zs L w1 _ HIN.out (by have := HL16.out; omega) (by omega) ho HV.out HX.out g1 (Nat.le_refl _))
    have HGE := Lib.hid (World.ownsRow.lt ho g rfl).1
    obtain ⟨len, hlen⟩ : ∃ l, L.length = l := ⟨_, rfl⟩
    rw [hlen] at HSC h0i
    have HLEN := Lib.hid hlen
    rw [hlen]
    clear ho g1 h0 hlen
    go_wp2_with fail
    refine (HSC.out).mono ?_
    rintro e w2 ⟨rfl, ho2, hg2⟩
    have HO2 := Lib.hid (own_lower ho2 HA.out.size)
    have HB2 := Lib.hid (HG.out.grown hg2 HG.out.size (fun k hk => by cases hk; exact Nat.le_trans HA.out.size HGE.out))
    clear ho2 hg2
    go_wp2
    go_ret2
    exact ⟨fun h => absurd h HZ.out, fun _ => ⟨_, rfl, HO2.out⟩, HB2.out⟩
set_option maxRecDepth 100000 in
set_option maxHeartbeats 4000000 in
theorem ft_spec (ao : Option Addr) (n c : Nat) (zs : List Lf) (fl : ByteArray) (w : World) (hn : n ≤ 1048576) (hv : LfsV w ao n zs) :
    Calls Tryd.prog 73 #[.slice ao n c, .string fl] w (NewCI (ftR zs fl).1 (ftR zs fl).2 w) := by
  unfold NewCI
  have HV := Lib.hid hv
  have HZ := Lib.hid hv.1
  clear hv
  cases hB : lfsB zs with
  | false =>
    have HR := Lib.hid (show ftR zs fl = ([], 1) by unfold ftR; rw [hB]; rfl)
    rw [HR.out]
    go_enter Tryd.func73, Tryd.ntmps73
    go_wp2_with fail
    refine (lfs_spec ao n c zs _ hn HV.out).mono ?_
    rintro e w1 ⟨rfl, g1⟩
    have HG := Lib.hid g1
    clear g1
    rw [hB]
    go_wp2
    go_ret2
    exact ⟨_, rfl, World.ownsRow_nil _ _ _ _, HG.out⟩
  | true =>
    have hn16 : n ≤ 16 := by have := (lfsB_ok hB).1; have := HZ.out; omega
    by_cases h0 : (flL zs fl n).length = 0
    · have HR := Lib.hid (show ftR zs fl = ([], 3) by unfold ftR; rw [hB, if_pos rfl, ← HZ.out, if_pos h0])
      have h0i : (((flL zs fl n).length : Int) == 0) = true := by rw [beq_iff_eq]; omega
      obtain ⟨len, hlen⟩ : ∃ l, (flL zs fl n).length = l := ⟨_, rfl⟩
      rw [hlen] at h0i
      have HLEN := Lib.hid hlen
      rw [HR.out]
      clear h0 hlen
      go_enter Tryd.func73, Tryd.ntmps73
      go_wp2_with fail
      refine (lfs_spec ao n c zs _ hn HV.out).mono ?_
      rintro e w1 ⟨rfl, g1⟩
      have HG := Lib.hid g1
      have HV1 := Lib.hid (HV.out.below g1)
      clear g1
      rw [hB]
      go_wp2_with fail
      refine (flt_spec ao n c zs fl _ hn16 HV1.out).mono ?_
      rintro e w2 ⟨v, rfl, ho, ⟨g, cap, rfl⟩, g2⟩
      have HG2 := Lib.hid (bseq HG.out g2)
      rw [HLEN.out]
      clear g2 ho
      go_wp2
      go_ret2
      exact ⟨_, rfl, World.ownsRow_nil _ _ _ _, HG2.out⟩
    · have HR := Lib.hid (show ftR zs fl = (flL zs fl n, 0) by unfold ftR; rw [hB, if_pos rfl, ← HZ.out, if_neg h0])
      have h0i : (((flL zs fl n).length : Int) == 0) = false := by rw [beq_eq_false_iff_ne]; omega
      obtain ⟨len, hlen⟩ : ∃ l, (flL zs fl n).length = l := ⟨_, rfl⟩
      rw [hlen] at h0i
      have HLEN := Lib.hid hlen
      rw [HR.out]
      clear h0 hlen
      go_enter Tryd.func73, Tryd.ntmps73
      go_wp2_with fail
      refine (lfs_spec ao n c zs _ hn HV.out).mono ?_
      rintro e w1 ⟨rfl, g1⟩
      have HG := Lib.hid g1
      have HV1 := Lib.hid (HV.out.below g1)
      clear g1
      rw [hB]
      go_wp2_with fail
      refine (flt_spec ao n c zs fl _ hn16 HV1.out).mono ?_
      rintro e w2 ⟨v, rfl, ho, ⟨g, cap, rfl⟩, g2⟩
      have HG2 := Lib.hid (bseq HG.out g2)
      have HO := Lib.hid (own_lower ho HG.out.size)
      rw [HLEN.out] at HO ⊢
      clear g2 ho
      go_wp2
      go_ret2
      exact ⟨_, rfl, by rw [HLEN.out]; exact HO.out, HG2.out⟩
end Go.Proofs.YtcjpplijbdfgbaaDoor
