/- Is a drawing valid: what it means, and the rings of faces in spec. -/
import Derived.Test.YtfhlafnjccoocaaGreatK11
import Derived.Test.YtfhlafnjccoocaaGreatLft
import Derived.Test.YtfhlafnjccoocaaGreatK16
import Derived.Test.YtfhlafnjccoocaaGreatSeq3
import Derived.Sort.Walk0
namespace Go.Proofs.YtfhlafnjccoocaaGreat
open Seq2 Go.ChangeShapes Go.WideShapes Go.ChangeAt Go.RowKit
set_option linter.unusedVariables false
set_option linter.unusedSimpArgs false

/-- The points with some indices. -/
def ringZ (zs : List P2) (r : List Int) : List P2 := r.map fun i => zs.getD i.toNat (0, 0)
theorem ringZ_len (zs : List P2) (r : List Int) : (ringZ zs r).length = r.length := by simp [ringZ]
def inAt (zs : List P2) (r : List Int) (k : Nat) : Bool := inI (r.getD k 0) 0 ((zs.length : Int) - 1)
def ringIn (zs : List P2) (r : List Int) : Bool := allTo (inAt zs r) r.length
def ringB (zs : List P2) (r : List Int) : Bool := ringIn zs r && polyB (ringZ zs r)
def ptIn (wd hg : Int) (p : P2) : Bool := inI p.1 0 wd && inI p.2 0 hg
def newB (zs : List P2) (i : Nat) : Bool := allTo (fun k => !eqP (zs.getD i (0, 0)) (zs.getD k (0, 0))) i
def ptB (wd hg : Int) (zs : List P2) (i : Nat) : Bool := ptIn wd hg (zs.getD i (0, 0)) && newB zs i
def ptsB (wd hg : Int) (zs : List P2) : Bool := allTo (ptB wd hg zs) zs.length && decide (zs.length ≤ 48)
def lessB (a b : ByteArray) : Bool := Op.bytesLess a.toList b.toList
def ordB (fs : List Fc) (i : Nat) : Bool := decide (i = 0) || lessB (fs.getD (i - 1) fc0).1 (fs.getD i fc0).1
def faceB (zs : List P2) (fs : List Fc) (i : Nat) : Bool := nameB (fs.getD i fc0).1 && ordB fs i && ringB zs (fs.getD i fc0).2
def facesB (zs : List P2) (fs : List Fc) : Bool := decide (fs.length ≤ 24) && allTo (faceB zs fs) fs.length
def panelB (D : Drw) : Bool := inI D.wd 10 20000 && inI D.hg 10 20000
def drB (D : Drw) : Bool := panelB D && ptsB D.wd D.hg D.ps && facesB D.ps D.fs

/-- A block that begins with four values. -/
def W4 (w : World) (q : Nat) (c0 c1 c2 c3 : Value) : Prop := ∃ cur t, w.heap[q]? = some (.cells cur t (0, 0)) ∧ cur[0]? = some c0 ∧ cur[1]? = some c1 ∧ cur[2]? = some c2 ∧ cur[3]? = some c3
theorem W4.of {w : World} {q : Nat} {c0 c1 c2 c3 : Value} {t : TypeId} (h : w.heap[q]? = some (.cells #[c0, c1, c2, c3] t (0, 0))) : W4 w q c0 c1 c2 c3 := ⟨_, t, h, rfl, rfl, rfl, rfl⟩
theorem W4.lt {w : World} {q : Nat} {c0 c1 c2 c3 : Value} (h : W4 w q c0 c1 c2 c3) : q < w.heap.size := by
  obtain ⟨_, _, h, _⟩ := h
  exact blk_lt h
theorem W4.keep {w w' : World} {q : Nat} {c0 c1 c2 c3 : Value} (h : W4 w q c0 c1 c2 c3) (e : w'.heap[q]? = w.heap[q]?) : W4 w' q c0 c1 c2 c3 := by
  obtain ⟨cur, t, h, h1⟩ := h
  exact ⟨cur, t, e.trans h, h1⟩
theorem W4.cells {w : World} {p : Nat} {c0 c1 c2 c3 : Value} (h : W4 w p c0 c1 c2 c3) :
    w.cell? ⟨p, 0, none⟩ = some c0 ∧ w.frozen? ⟨p, 0, none⟩ = false ∧ w.cell? ⟨p, 1, none⟩ = some c1 ∧ w.frozen? ⟨p, 1, none⟩ = false ∧ w.cell? ⟨p, 2, none⟩ = some c2 ∧ w.frozen? ⟨p, 2, none⟩ = false ∧ w.cell? ⟨p, 3, none⟩ = some c3 ∧ w.frozen? ⟨p, 3, none⟩ = false := by
  obtain ⟨cur, t, h, h0, h1, h2, h3⟩ := h
  exact ⟨(cell_of_arr h h0).1, (cell_of_arr h h0).2, (cell_of_arr h h1).1, (cell_of_arr h h1).2, (cell_of_arr h h2).1, (cell_of_arr h h2).2, (cell_of_arr h h3).1, (cell_of_arr h h3).2⟩
/-- A drawing that a pointer leads to: the first four cells of a block. -/
structure DP (w : World) (q : Nat) (D : Drw) : Prop where
  out : ∃ ao n c bo m d, W4 w q (.int .i64 D.wd) (.int .i64 D.hg) (.slice ao n c) (.slice bo m d) ∧ (Lit.int .i64 D.wd).wf = true ∧ (Lit.int .i64 D.hg).wf = true ∧ dSz D ≤ 1048576 ∧ PV w ao n D.ps ∧ FV w bo m D.fs
theorem DP.below {w w' : World} {q : Nat} {D : Drw} (h : DP w q D) (hb : Below w.heap.size w w') : DP w' q D := by
  obtain ⟨ao, n, c, bo, m, d, h1, h2, h3, h4, h5, h6⟩ := h.out
  exact ⟨ao, n, c, bo, m, d, h1.keep (hb.block q h1.lt), h2, h3, h4, h5.below hb, h6.below hb⟩
theorem DV.box {w : World} {v : Value} {D : Drw} (h : DV w v D) : ∃ c : Array Value, v = .agg c ∧ DP (w.alloc (.cells c 33)) w.heap.size D := by
  obtain ⟨ao, n, c, bo, m, d, rfl, h2, h3, h4, h5, h6⟩ := h.out
  exact ⟨_, rfl, ao, n, c, bo, m, d, W4.of (World.alloc_heap_new _ _), h2, h3, h4, h5.below (one_alloc _), h6.below (one_alloc _)⟩
theorem ring_succ {zs : List P2} {r : List Int} {k j : Nat} {x y : Int} (hk : k < r.length) (e : r.getD k 0 = (j : Int)) (e2 : zs.getD j (0, 0) = (x, y)) : flatP (ringZ zs (r.take k)) ++ [.int .i64 x, .int .i64 y] = flatP (ringZ zs (r.take (k + 1))) := by
  have e' : r[k] = (j : Int) := by simpa [List.getD_eq_getElem?_getD, hk] using e
  rw [List.take_succ_eq_append_getElem hk, e']
  unfold ringZ
  rw [List.map_append, flatP_app]
  have : flatP (List.map (fun i => zs.getD (Int.toNat i) (0, 0)) [(j : Int)]) = [.int .i64 x, .int .i64 y] := by
    simp only [List.map_cons, List.map_nil, Int.toNat_natCast, e2]; rfl
  rw [this]
def RingPost (zs : List P2) (r : List Int) (w : World) (e : Ending) (w' : World) : Prop := ∃ v, e = .returned (.tuple #[v, .bool (ringIn zs r)]) ∧ Below w.heap.size w w' ∧ (ringIn zs r = true → w'.ownsRow w.heap.size 67 2 v r.length (flatP (ringZ zs r)))
set_option maxRecDepth 100000 in
set_option maxHeartbeats 4000000 in
theorem ring_spec (q : Nat) (D : Drw) (a : Option Addr) (n c : Nat) (r : List Int) (w : World) (hn : n ≤ 1048576) (hd : DP w q D) (hi : IV w a n r) :
    Calls Tryz.prog 30 #[.pointer (some ⟨q, 0, none⟩), .slice a n c] w (RingPost D.ps r w) := by
  obtain ⟨ao, np, cp, bo, m, d, hq, _, _, hs, hp, _⟩ := hd.out
  have HQ := Lib.hid hq
  have HZ := Lib.hid hi.1
  have HI := Lib.hid hi
  have HP := Lib.hid hp
  have HPZ := Lib.hid hp.1
  have hnp : np ≤ 1048576 := by have := hp.1; unfold dSz at hs; omega
  obtain ⟨i0, hi0, hz0, hz1, hz2⟩ := info_parts info_pt
  have HO := Lib.hid (own_new w)
  have HB := Lib.hid (one_alloc (w := w) (.cells #[] 67))
  clear hd hq hi hp hs
  go_enter Tryz.func30, Tryz.ntmps30
  go_wp2
  go_loopw [6, 7] (fun sv iv wr => ∃ (k : Nat), k ≤ n ∧ iv = .int .i64 k ∧ Hid (∀ j, j < k → inAt D.ps r j = true) ∧ Hid (wr.ownsRow w.heap.size 67 2 sv k (flatP (ringZ D.ps (r.take k)))) ∧ Hid (Below w.heap.size w wr)) (fun _ i _ => n - (intOf i).toNat)
  case atStart => exact ⟨0, by omega, rfl, Lib.hid (fun j hj => by omega), HO, HB⟩
  case round =>
    obtain ⟨k, hk, rfl, ha, ho, hb⟩ := hrel
    have hob := HQ.out.keep (hb.out.block q HQ.out.lt)
    have hqw := hob.lt
    obtain ⟨_, _, _, _, c2, f2, _, _⟩ := hob.cells
    clear hob
    by_cases hlt : k < n
    · have hkz : k < r.length := by have := HZ.out; omega
      obtain ⟨ib, rfl, hib, hcs⟩ := (HI.out.below hb.out).2.resolve_left (by omega)
      have i0' := hcs k hlt
      have HK := Lib.hid (show inAt D.ps r k = inI (r.getD k 0) 0 ((np : Int) - 1) by unfold inAt; rw [← HPZ.out])
      obtain ⟨z, e⟩ : ∃ z, r.getD k 0 = z := ⟨_, rfl⟩
      rw [e] at i0' HK
      have q1 : IntKind.i64.wrap ((np : Int) - 1) = (np : Int) - 1 := IntWalk.i64_in _ (by omega)
      clear hcs
      have E := Lib.hid e
      clear e
      cases hin : inI z 0 ((np : Int) - 1) with
      | false =>
        have HN := Lib.hid hin
        have HR := Lib.hid (show ringIn D.ps r = false from allTo_bad hkz (HK.out.trans hin))
        clear hin
        go_wp2
        refine wp_region_below (by kernel_rfl) (by kernel_rfl) ?_
        repeat (first | (refine wq_skip ?_ ?_; (focus (go_simp; (first | done | (simp [undef]; done)))); (try simp only [Act.put, List.setIfInBounds_toArray, List.set_cons_zero, List.set_cons_succ])) | (refine wq_val ?_ ?_; (focus (go_simp; done)); apply Exists.intro; refine ⟨fun w1 hw1 => ?_, ?_⟩; (obtain ⟨hc, hf⟩ := bcell hw1; clear hw1; go_simp; (first | done | with_reducible rfl | (with_reducible exact eql2 _ _ _) | (with_reducible exact neq2 _ _ _))); (try simp only [Act.put, List.setIfInBounds_toArray, List.set_cons_zero, List.set_cons_succ])) | (refine wq_call 27 ?_ ?_; (focus (go_simp; done)); apply Exists.intro; refine ⟨fun w1 hw1 => ?_, ?_⟩; (focus (clear hw1; go_simp; (first | done | with_reducible rfl))); apply Exists.intro; refine ⟨fun w1 hw1 => ?_, ?_⟩; (focus (exact calls_below_same hw1 (by have := in_any z 0 ((np : Int) - 1) w1; rw [HN.out] at this; exact this); done)); (try simp only [Act.put, List.setIfInBounds_toArray, List.set_cons_zero, List.set_cons_succ])))
        refine wq_nil ?_
        intro w1 hb1
        have HB1 := Lib.hid (hb.out.trans (hb1.mono hb.out.size))
        clear hb1
        go_wp2
        go_ret2
        refine ⟨.slice none 0 0, by rw [HR.out]; rfl, HB1.out, fun h => ?_⟩
        rw [HR.out] at h; cases h
      | true =>
        have HN := Lib.hid hin
        have hzb : 0 ≤ z ∧ z ≤ (np : Int) - 1 := by unfold inI at hin; simp at hin; omega
        obtain ⟨j, rfl⟩ := Int.eq_ofNat_of_zero_le hzb.1
        have hjn : j < np := by omega
        have HK2 := Lib.hid (HK.out.trans hin)
        clear hin
        go_wp2
        refine wp_region_below (by kernel_rfl) (by kernel_rfl) ?_
        repeat (first | (refine wq_skip ?_ ?_; (focus (go_simp; (first | done | (simp [undef]; done)))); (try simp only [Act.put, List.setIfInBounds_toArray, List.set_cons_zero, List.set_cons_succ])) | (refine wq_val ?_ ?_; (focus (go_simp; done)); apply Exists.intro; refine ⟨fun w1 hw1 => ?_, ?_⟩; (obtain ⟨hc, hf⟩ := bcell hw1; clear hw1; go_simp; (first | done | with_reducible rfl | (with_reducible exact eql2 _ _ _) | (with_reducible exact neq2 _ _ _))); (try simp only [Act.put, List.setIfInBounds_toArray, List.set_cons_zero, List.set_cons_succ])) | (refine wq_call 27 ?_ ?_; (focus (go_simp; done)); apply Exists.intro; refine ⟨fun w1 hw1 => ?_, ?_⟩; (focus (clear hw1; go_simp; (first | done | with_reducible rfl))); apply Exists.intro; refine ⟨fun w1 hw1 => ?_, ?_⟩; (focus (exact calls_below_same hw1 (by have := in_any (j : Int) 0 ((np : Int) - 1) w1; rw [HN.out] at this; exact this); done)); (try simp only [Act.put, List.setIfInBounds_toArray, List.set_cons_zero, List.set_cons_succ])))
        refine wq_nil ?_
        intro wa hba
        have HB1 := Lib.hid (hb.out.trans (hba.mono hb.out.size))
        have HO1 := Lib.hid (own_below ho.out hba)
        clear hba c2 f2 i0'
        have hqw0 := HQ.out.lt
        obtain ⟨_, _, _, _, c2, f2, _, _⟩ := HQ.out.cells
        obtain ⟨ib', eib, hib0, hcs⟩ := HI.out.2.resolve_left (by omega)
        cases eib
        have i1 := hcs k hlt
        rw [E.out] at i1
        obtain ⟨b, rfl, hpp⟩ := HP.out.at (by omega)
        have hbw := hpp.1
        obtain ⟨x, y, e2, p0, p1⟩ := hpp.pt (k := j) (by have := HPZ.out; omega)
        have HST := Lib.hid (ring_succ hkz E.out e2)
        clear hpp e2 hcs
        go_wp2
        refine Seq2.wp_region_fl w [0, 1, 2, 3, 4, 5, 6, 7, 8, 9, 10] [11, 12, 13] (by kernel_rfl) (by kernel_rfl) rfl (HB1.out) (fun w1 hh hb1 => ?_)
        repeat (first | (refine Seq2.fl_row (by decide) ?_) | (refine Seq2.fl_skip (by kernel_rfl) (by kernel_rfl) ?_ ?_; (focus (go_simp; (first | done | (simp [undef]; done)))); (try simp only [Act.put, List.setIfInBounds_toArray, List.set_cons_zero, List.set_cons_succ])) | (refine Seq2.fl_val (by kernel_rfl) (by kernel_rfl) ?_ ?_; (focus (go_simp; done)); apply Exists.intro; refine ⟨fun w2 hw2 => ?_, ?_⟩; (focus (obtain ⟨hc, hf⟩ := bcell hw2; clear hw2; go_simp; (first | done | with_reducible rfl | (with_reducible exact eql2 _ _ _) | (with_reducible exact neq2 _ _ _)))); (try simp only [Act.put, List.setIfInBounds_toArray, List.set_cons_zero, List.set_cons_succ])))
        refine Seq2.fl_nil ?_
        refine ch_one (by kernel_rfl) rfl ?_
        gi_wp2
        have HS2 := Lib.hid (show w1.heap.size = wa.heap.size by rw [hh])
        have HO2 := Lib.hid (own_below HO1.out hb1)
        have HW2 := Lib.hid (HB1.out.trans (hb1.mono HB1.out.size))
        refine ⟨HW2.out.alloc HW2.out.size _, ?_⟩
        refine ch_one (by kernel_rfl) rfl ?_
        refine wpListIn_appN rfl _ _ 30 rfl w.heap.size 67 i0 _ 2 16 Tryz.underlying30 hi0 hz0 hz1 hz2 rfl (by omega) _ _ _ rfl HO2.out _ rfl HS2.out.symm rfl rfl (by omega) (by omega) HW2.out.size ?_
        intro v3 w3 ho3 hg3
        have HO3 := Lib.hid ho3
        have HW3 := Lib.hid ((HW2.out.alloc HW2.out.size _).trans (own_grown (HO2.out.alloc _) hg3 (Nat.le_refl _) (HW2.out.alloc HW2.out.size _).size))
        clear ho3 hg3 hb1 hh
        gi_wp2
        refine ⟨HW3.out, ?_⟩
        refine ch_one (by kernel_rfl) rfl ?_
        gi_wp2
        refine ⟨HW3.out, ?_⟩
        refine ch_nil (by kernel_rfl) ?_
        go_wp2
        go_roundw
        case rel => exact ⟨k + 1, by omega, by go_num, Lib.hid (fun j' hj => by rcases Nat.lt_or_ge j' k with h | h; exact ha.out j' h; (obtain rfl : j' = k := (by omega)); exact HK2.out), Lib.hid (by have := HO3.out; rwa [HST.out] at this), Lib.hid HW3.out⟩
        case measure => simp [intOf]; omega
    · obtain rfl : k = n := by omega
      have HR := Lib.hid (show ringIn D.ps r = true from allTo_ok (fun j hj => ha.out j (by have := HZ.out; omega)))
      go_wp2
      go_ret2
      refine ⟨_, by rw [HR.out]; rfl, hb.out, fun _ => ?_⟩
      have := ho.out
      rwa [List.take_of_length_le (by have := HZ.out; omega), HZ.out] at this
end Go.Proofs.YtfhlafnjccoocaaGreat
