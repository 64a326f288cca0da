/- The text of a leaf: mathematics, spec. -/
import Derived.Test.YthocpiklbcahgaaDoorLea3
import Derived.Test.YthocpiklbcahgaaDoorVen19
namespace Go.Proofs.YthocpiklbcahgaaDoor
open Seq2 Go.ChangeShapes Go.WideShapes Go.ChangeAt Go.RowKit
set_option linter.unusedVariables false
set_option linter.unusedSimpArgs false

def bxN (d : Bx) : List Int := [d.1, d.2.1, d.2.2.1, d.2.2.2]
def hdP (z : Lf) : List (List UInt8) := [z.id.data.toList, z.fl.data.toList, Lib.itoa z.nu, vtL z.ve.1 z.ve.2.1 z.ve.2.2, Lib.itoa z.wd ++ 120 :: Lib.itoa z.ln]
/-- The parts of the text, with those of the first k defects. -/
def ltP (z : Lf) (k : Nat) : List (List UInt8) := hdP z ++ (z.df.take k).map (fun d => jn (bxN d))
def ltL (z : Lf) (k : Nat) : List UInt8 := Lib.join (ltP z k) [47]
def ltT (z : Lf) : List UInt8 := if lfB z then ltL z z.df.length else []
theorem join_add (L : List (List UInt8)) (hL : L ≠ []) (y sep : List UInt8) : Lib.join (L ++ [y]) sep = Lib.join L sep ++ (sep ++ y) := by
  cases L with
  | nil => exact absurd rfl hL
  | cons x r => rw [List.cons_append, join_snoc]
theorem ltP_succ (z : Lf) (k : Nat) (h : k < z.df.length) : ltP z (k + 1) = ltP z k ++ [jn (bxN (z.df.getD k bx0))] := by
  unfold ltP
  rw [List.take_succ_eq_append_getElem h, List.map_append, List.append_assoc]
  simp [h]
theorem ltL_succ (z : Lf) (k : Nat) (h : k < z.df.length) : ltL z (k + 1) = ltL z k ++ 47 :: jn (bxN (z.df.getD k bx0)) := by
  unfold ltL
  rw [ltP_succ z k h, join_add _ (by simp [ltP, hdP])]
  rfl
theorem lfB_dfs {z : Lf} (h : lfB z = true) : (10 ≤ z.wd ∧ z.wd ≤ 20000) ∧ (10 ≤ z.ln ∧ z.ln ≤ 20000) ∧ z.df.length ≤ 6 ∧ ∀ j, j < z.df.length → boxW (z.df.getD j bx0) z.wd z.ln = true := by
  simp only [lfB, Bool.and_eq_true, decide_eq_true_eq, inI_iff, dfsB, List.all_eq_true] at h
  refine ⟨h.2.2.2.2.1, h.2.2.2.2.2.1, h.2.2.2.2.2.2.1, fun j hj => ?_⟩
  rw [List.getD_eq_getElem?_getD, List.getElem?_eq_getElem hj]
  exact h.2.2.2.2.2.2.2 _ (List.getElem_mem hj)
theorem lfB_all {z : Lf} (h : lfB z = true) : nameB z.id = true ∧ nameB z.fl = true ∧ (0 ≤ z.nu ∧ z.nu ≤ 999) ∧ venB z.ve.1 z.ve.2.1 z.ve.2.2 = true ∧ (10 ≤ z.wd ∧ z.wd ≤ 20000) ∧ (10 ≤ z.ln ∧ z.ln ≤ 20000) ∧ z.df.length ≤ 6 ∧ ∀ j, j < z.df.length → boxW (z.df.getD j bx0) z.wd z.ln = true := by
  obtain ⟨h1, h2, h3, h4⟩ := lfB_dfs h
  simp only [lfB, Bool.and_eq_true, inI_iff] at h
  exact ⟨h.1, h.2.1, h.2.2.1, h.2.2.2.1, h1, h2, h3, h4⟩
theorem nameB_len {s : ByteArray} (h : nameB s = true) : s.data.toList.length ≤ 10 := by
  simp only [nameB, Bool.and_eq_true, decide_eq_true_eq] at h
  exact h.1.1
theorem jn_bx (d : Bx) (h : bxS d) : (jn (bxN d)).length ≤ 84 := by
  have := jn_len (bxN d) (by unfold bxS at h; simp [bxN, wiI]; omega) 4 (by simp [bxN])
  simpa [bxN] using this
theorem hd_len {z : Lf} (h : lfB z = true) : (Lib.join (hdP z) [47]).length ≤ 200 := by
  obtain ⟨h1, h2, h3, h4, h5, h6, _, _⟩ := lfB_all h
  have a1 := nameB_len h1
  have a2 := nameB_len h2
  have a3 := itoa_len z.nu (by omega) (by omega)
  have a4 := ven_len h4
  obtain ⟨_, v0, v1, v2, v3⟩ := venB_ok h4
  have a5 := itoa_len z.ve.2.1 (by omega) (by omega)
  have a6 := itoa_len z.ve.2.2 (by omega) (by omega)
  have a7 := itoa_len z.wd (by omega) (by omega)
  have a8 := itoa_len z.ln (by omega) (by omega)
  have b1 : z.id.size ≤ 10 := by have := a1; simp at this; exact this
  have b2 : z.fl.size ≤ 10 := by have := a2; simp at this; exact this
  have b4 : z.ve.1.size ≤ 8 := by have := a4; simp at this; exact this
  simp [hdP, Lib.join_cons, Lib.joinTail, vtL]
  omega
theorem lt_len {z : Lf} (h : lfB z = true) : ∀ k, k ≤ z.df.length → (ltL z k).length ≤ 200 + 85 * k
  | 0, _ => by have := hd_len h; simpa [ltL, ltP] using this
  | k + 1, hk => by
    obtain ⟨_, _, _, _, h5, h6, _, h8⟩ := lfB_all h
    have := lt_len h k (by omega)
    have := jn_bx _ (bxS_of (h8 k (by omega)) h5.2 h6.2)
    rw [ltL_succ z k (by omega)]
    simp only [List.length_append, List.length_cons]
    omega
theorem add_to {a b c : List UInt8} (h : a ++ b = c) (hc : c.length ≤ 1048576) : ∀ w, (Op.stringOp .add (tb a) (tb b)).run Tryd.prog w = .ok (.string (tb c)) w := by
  intro w
  subst h
  exact add_tb a b w (by simpa using hc)
theorem add_one {a c : List UInt8} (x : UInt8) (h : a ++ [x] = c) (hc : c.length ≤ 1048576) : ∀ w, (Op.stringOp .add (tb a) ⟨#[x]⟩).run Tryd.prog w = .ok (.string (tb c)) w := add_to h hc
theorem one_add {b c : List UInt8} (x : UInt8) (h : x :: b = c) (hc : c.length ≤ 1048576) : ∀ w, (Op.stringOp .add ⟨#[x]⟩ (tb b)).run Tryd.prog w = .ok (.string (tb c)) w := add_to (a := [x]) h hc
theorem ints4 (w : World) (t : TypeId) (x y a b : Int) : IntsAt (w.alloc (.cells #[.int .i64 x, .int .i64 y, .int .i64 a, .int .i64 b] t)) w.heap.size (bxN (x, y, a, b)) := by
  have hp := World.alloc_heap_new w (.cells #[.int .i64 x, .int .i64 y, .int .i64 a, .int .i64 b] t)
  refine ⟨by simp, fun j hj => ?_⟩
  match j, hj with
  | 0, _ => exact (cell_of_arr hp (j := 0) rfl).1
  | 1, _ => exact (cell_of_arr hp (j := 1) rfl).1
  | 2, _ => exact (cell_of_arr hp (j := 2) rfl).1
  | 3, _ => exact (cell_of_arr hp (j := 3) rfl).1
  | j + 4, h => exact absurd h (by simp [bxN])
theorem bx_fit {d : Bx} (h : bxS d) : fitB (bxN d) = true := by
  unfold bxS at h
  simp [fitB, wiI, bxN]
  omega
theorem list4_spec (q : Nat) (x y a b : Int) (w : World) (hq : q = w.heap.size) (h : bxS (x, y, a, b)) :
    Calls Tryd.prog 106 #[.slice (some ⟨q, 0, none⟩) 4 4] (w.alloc (.cells #[.int .i64 x, .int .i64 y, .int .i64 a, .int .i64 b] 2)) fun e w' => e = .returned (.string (tb (jn (bxN (x, y, a, b))))) ∧ Below w.heap.size w w' := by
  subst hq
  refine (list_any w.heap.size 4 (bxN (x, y, a, b)) _ (bx_fit h) (ints4 w _ x y a b)).mono ?_
  rintro e w' ⟨rfl, hb⟩
  refine ⟨?_, bseq (one_alloc _) hb⟩
  rw [listT, if_neg (by simp [bxN])]
/-- The steps of the text's head. -/
structure HdS (z : Lf) (p0 p1 p2 p3 p4 p5 p6 p7 p8 p9 p10 : List UInt8) : Prop where
  e0 : z.id = tb p0
  e1 : p0 ++ [47] = p1
  e2 : ∃ q, z.fl = tb q ∧ p1 ++ q = p2
  e3 : p2 ++ [47] = p3
  e4 : p3 ++ Lib.itoa z.nu = p4
  e5 : p4 ++ [47] = p5
  e6 : p5 ++ vtL z.ve.1 z.ve.2.1 z.ve.2.2 = p6
  e7 : p6 ++ [47] = p7
  e8 : p7 ++ Lib.itoa z.wd = p8
  e9 : p8 ++ [120] = p9
  e10 : p9 ++ Lib.itoa z.ln = p10
  len : p10.length ≤ 200
  eq : p10 = ltL z 0
theorem hds {z : Lf} (h : lfB z = true) : ∃ p0 p1 p2 p3 p4 p5 p6 p7 p8 p9 p10, HdS z p0 p1 p2 p3 p4 p5 p6 p7 p8 p9 p10 := by
  have e : z.id.data.toList ++ [47] ++ z.fl.data.toList ++ [47] ++ Lib.itoa z.nu ++ [47] ++ vtL z.ve.1 z.ve.2.1 z.ve.2.2 ++ [47] ++ Lib.itoa z.wd ++ [120] ++ Lib.itoa z.ln = ltL z 0 := by
    simp [ltL, ltP, hdP, Lib.join_cons, Lib.joinTail]
  have hl := lt_len h 0 (by omega)
  exact ⟨_, _, _, _, _, _, _, _, _, _, _, ⟨(tb_self _).symm, rfl, ⟨_, (tb_self _).symm, rfl⟩, rfl, rfl, rfl, rfl, rfl, rfl, rfl, rfl, by rw [e]; omega, e⟩⟩
set_option maxRecDepth 100000 in
set_option maxHeartbeats 16000000 in
theorem ltext_at (q : Nat) (z : Lf) (v : Value) (w : World) (hv : LfV w v z) (hq : LfAt w q 0 z) (hB : lfB z = true) : Calls Tryd.prog 65 #[.pointer (some ⟨q, 0, none⟩)] w fun e w' => e = .returned (.string (tb (ltL z z.df.length))) ∧ Below w.heap.size w w' := by
  obtain ⟨b1, b2, b3, b4, b5, b6, b7, b8⟩ := lfB_all hB
  have HL := Lib.hid (lt_len hB)
  have HSU := Lib.hid (ltL_succ z)
  have HBX := Lib.hid (fun j (hj : j < z.df.length) => (bxS_of (b8 j hj) b5.2 b6.2))
  obtain ⟨p0, p1, p2, p3, p4, p5, p6, p7, p8, p9, p10, hh⟩ := hds hB
  obtain ⟨v', hv', ha⟩ := hq
  obtain ⟨ao, n, c, rfl, _, _, _, _, _, _, _, hn, hd⟩ := hv'.out
  obtain ⟨f, hf1, hf2⟩ := hh.e2
  have c0 : w.cell? ⟨q, 0, none⟩ = some (.string z.id) := ha.at 0 rfl
  have c1 : w.cell? ⟨q, 0 + 1, none⟩ = some (.string z.fl) := ha.at 1 rfl
  have c2 : w.cell? ⟨q, 0 + 2, none⟩ = some (.int .i64 z.nu) := ha.at 2 rfl
  have c3 : w.cell? ⟨q, 0 + 3, none⟩ = some (.string z.ve.1) := ha.at 3 rfl
  have c4 : w.cell? ⟨q, 0 + 4, none⟩ = some (.int .i64 z.ve.2.1) := ha.at 4 rfl
  have c5 : w.cell? ⟨q, 0 + 5, none⟩ = some (.int .i64 z.ve.2.2) := ha.at 5 rfl
  have c6 : w.cell? ⟨q, 0 + 6, none⟩ = some (.int .i64 z.wd) := ha.at 6 rfl
  have c7 : w.cell? ⟨q, 0 + 7, none⟩ = some (.int .i64 z.ln) := ha.at 7 rfl
  have c8 : w.cell? ⟨q, 0 + 8, none⟩ = some (.slice ao n c) := ha.at 8 rfl
  have hqw := ha.1
  have HVC := Lib.hid (show VC w q 3 z.ve.1 z.ve.2.1 z.ve.2.2 from ⟨hqw, by simpa using c3, by simpa using c4, by simpa using c5⟩)
  have HVB := Lib.hid b4
  have HC8 := Lib.hid (show w.cell? ⟨q, 8, none⟩ = some (.slice ao n c) by simpa using c8)
  have HV := Lib.hid hd
  have HNZ := Lib.hid hd.1
  have hnn : n ≤ 6 := by have := hd.1; omega
  rw [hh.e0] at c0
  rw [hf1] at c1
  simp only [Nat.zero_add] at c0 c1 c2 c3 c4 c5 c6 c7 c8
  have hl10 := hh.len
  have HP := Lib.hid hh.eq
  have l9 : p9.length ≤ 200 := by have := congrArg List.length hh.e10; simp at this; omega
  have l8 : p8.length ≤ 200 := by have := congrArg List.length hh.e9; simp at this; omega
  have l7 : p7.length ≤ 200 := by have := congrArg List.length hh.e8; simp at this; omega
  have l6 : p6.length ≤ 200 := by have := congrArg List.length hh.e7; simp at this; omega
  have l5 : p5.length ≤ 200 := by have := congrArg List.length hh.e6; simp at this; omega
  have l4 : p4.length ≤ 200 := by have := congrArg List.length hh.e5; simp at this; omega
  have l3 : p3.length ≤ 200 := by have := congrArg List.length hh.e4; simp at this; omega
  have l2 : p2.length ≤ 200 := by have := congrArg List.length hh.e3; simp at this; omega
  have l1 : p1.length ≤ 200 := by have := congrArg List.length hf2; simp at this; omega
  have s1 := add_one 47 hh.e1 (by omega)
  have s2 := add_to hf2 (by omega)
  have s3 := add_one 47 hh.e3 (by omega)
  have s4 := add_to hh.e4 (by omega)
  have s5 := add_one 47 hh.e5 (by omega)
  have s6 := add_to hh.e6 (by omega)
  have s7 := add_one 47 hh.e7 (by omega)
  have s8 := add_to hh.e8 (by omega)
  have s9 := add_one 120 hh.e9 (by omega)
  have s10 := add_to hh.e10 (by omega)
  obtain ⟨ve, hve⟩ : ∃ l, vtL z.ve.1 z.ve.2.1 z.ve.2.2 = l := ⟨_, rfl⟩
  have HVE := Lib.hid (fun w1 (h : VC w1 q 3 z.ve.1 z.ve.2.1 z.ve.2.2) => by have := vtext_at q 3 _ _ _ w1 h b4; rw [hve] at this; exact this)
  rw [hve] at s6
  have i3 := b3
  have i5 := b5
  have i6 := b6
  clear hB b1 b2 b4 b8 hve hh hf1 hf2 l1 l2 l3 l4 l5 l6 l7 l8 l9 hv hv' ha hd c3 c4 c5
  go_enter Tryd.func65, Tryd.ntmps65
  go_wp2
  refine wp_region_below (by kernel_rfl) (by kernel_rfl) ?_
  repeat (first | (refine wq_val ?_ ?_; (focus (go_simp; done)); apply Exists.intro; refine ⟨fun w1 hw1 => ?_, ?_⟩; (obtain ⟨hc, hf⟩ := bcell hw1; clear hw1; go_simp; (first | done | with_reducible rfl | (with_reducible exact eql2 _ _ _) | (with_reducible exact neq2 _ _ _))); (try simp only [Act.put, List.setIfInBounds_toArray, List.set_cons_zero, List.set_cons_succ])) | (refine wq_skip ?_ ?_; (focus (go_simp; (first | done | (simp [undef]; done)))); (try simp only [Act.put, List.setIfInBounds_toArray, List.set_cons_zero, List.set_cons_succ])) | (refine wq_call 104 ?_ ?_; (focus (go_simp; done)); apply Exists.intro; refine ⟨fun w1 hw1 => ?_, ?_⟩; (focus (clear hw1; go_simp; (first | done | with_reducible rfl))); apply Exists.intro; refine ⟨fun w1 hw1 => ?_, ?_⟩; (focus (exact calls_below hw1 (dec_tb _ _ (by omega) (by omega)); done)); (try simp only [Act.put, List.setIfInBounds_toArray, List.set_cons_zero, List.set_cons_succ])) | (refine wq_call 105 ?_ ?_; (focus (go_simp; done)); apply Exists.intro; refine ⟨fun w1 hw1 => ?_, ?_⟩; (focus (clear hw1; go_simp; (first | done | with_reducible rfl))); apply Exists.intro; refine ⟨fun w1 hw1 => ?_, ?_⟩; (focus (exact calls_below hw1 (HVE.out _ (HVC.out.below hw1)); done)); (try simp only [Act.put, List.setIfInBounds_toArray, List.set_cons_zero, List.set_cons_succ])))
  refine wq_nil ?_
  intro w1 hb1
  have HB1 := Lib.hid hb1
  have C8 := Lib.hid ((hb1.cell (p := ⟨q, 8, none⟩) hqw).trans HC8.out)
  have HQ1 := Lib.hid (Nat.lt_of_lt_of_le hqw hb1.size)
  have HV1 := Lib.hid (HV.out.below hb1)
  clear hb1 c0 c1 c2 c6 c7 c8 s1 s2 s3 s4 s5 s6 s7 s8 s9 s10 hqw
  go_wp2
  rw [HP.out]
  go_loopw [4, 3] (fun iv tv wr => ∃ k : Nat, k ≤ n ∧ iv = .int .i64 k ∧ tv = .string (tb (ltL z k)) ∧ Hid (Below w1.heap.size w1 wr)) (fun i _ _ => n - (intOf i).toNat)
  case atStart => exact ⟨0, by omega, rfl, rfl, Lib.hid (Below.refl _ _)⟩
  case round =>
    obtain ⟨k, hk, rfl, rfl, hb⟩ := hrel
    have hqk : q < wr.heap.size := Nat.lt_of_lt_of_le HQ1.out hb.out.size
    have d8 : wr.cell? ⟨q, 8, none⟩ = some (.slice ao n c) := (hb.out.cell (p := ⟨q, 8, none⟩) HQ1.out).trans C8.out
    by_cases hlt : k < n
    · obtain ⟨b, rfl, hbx⟩ := (HV1.out.below hb.out).2.resolve_left (by omega)
      have hkz : k < z.df.length := by have := HNZ.out; omega
      obtain ⟨hbw, v0, v1, v2, v3⟩ := hbx k hlt
      have HSK := Lib.hid (HSU.out k hkz)
      have hsz := HBX.out k hkz
      have hlk := HL.out k (by omega)
      have hjb := jn_bx _ hsz
      obtain ⟨d, hdd⟩ : ∃ d, z.df.getD k bx0 = d := ⟨_, rfl⟩
      rw [hdd] at v0 v1 v2 v3 HSK hsz hjb
      clear hbx hdd
      obtain ⟨x, y, a, b'⟩ := d
      simp only at v0 v1 v2 v3
      obtain ⟨t, ht⟩ : ∃ t, jn (bxN (x, y, a, b')) = t := ⟨_, rfl⟩
      have HLC := Lib.hid (fun q (w2 : World) (hq : q = w2.heap.size) => by have := list4_spec q x y a b' w2 hq hsz; rw [ht] at this; exact this)
      rw [ht] at HSK hjb
      obtain ⟨cur, hcur⟩ : ∃ l, ltL z k = l := ⟨_, rfl⟩
      obtain ⟨nxt, hnx⟩ : ∃ l, ltL z (k + 1) = l := ⟨_, rfl⟩
      have HNX := Lib.hid hnx
      have hstep := HSK.out
      rw [hcur, hnx] at hstep
      rw [hcur] at hlk ⊢
      have t1 := one_add (b := t) 47 rfl (by simp; omega)
      have t2 := add_to hstep.symm (by rw [hstep]; simp; omega)
      clear hsz hjb hlk hstep hcur hnx ht HSK
      go_wp2_with fail
      refine (HLC.out _ (wr.alloc (.cells #[.int .i64 x, .int .i64 y, .int .i64 a, .int .i64 b'] 49)) (by simp)).mono ?_
      rintro e w2 ⟨rfl, g2⟩
      have HB2 := Lib.hid (hb.out.trans ((bseq (one_alloc _) g2).mono hb.out.size))
      clear g2
      go_wp2
      go_roundw
      case rel => exact ⟨k + 1, by omega, by go_num, by rw [HNX.out], HB2⟩
      case measure => simp [intOf]; omega
    · obtain rfl : k = n := by omega
      have HE := Lib.hid HNZ.out
      go_wp2
      go_ret
      exact ⟨by rw [HE.out]; rfl, bseq HB1.out hb.out⟩
end Go.Proofs.YthocpiklbcahgaaDoor
