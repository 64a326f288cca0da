/- l01Dec of spec: the decimal numeral of every int64 number. -/
import Derived.Test.YthjimogeimigmaaDoorProg
import Derived.Test.YthjimogeimigmaaDoorK1
import Derived.Test.YthjimogeimigmaaDoorOwn
import Derived.Test.YthjimogeimigmaaDoorDecMath
import Derived.Laws.IdiomStrings
import Derived.IntWalk
namespace Go.Proofs.YthjimogeimigmaaDoor
open Go.ChangeShapes Go.WideShapes Go.ChangeAt Go.RowKit

theorem Tryd.infoU8 : (Tryd.prog.info? 5).map (fun i => (i.zero, i.size, i.bytes)) = some (some (.int .u8 0), 1, 1) := by kernel_rfl

/-- Loop 1: D has been written, m is left. -/
structure DecInv (n m : Int) (D : List UInt8) (base : Nat) (v : Value) (w wr : World) : Prop where
  sgn : (0 ≤ n → 0 ≤ m) ∧ (n < 0 → m ≤ 0)
  split : D ++ revD m.natAbs = revD n.natAbs
  own : wr.ownsRow base 5 1 v D.length (D.map bV)
  below : Below base w wr
  le : base ≤ wr.heap.size

theorem DecInv.len {n m : Int} {D : List UInt8} {base : Nat} {v : Value} {w wr : World} (h : DecInv n m D base v w wr) (hn : n.natAbs < 10 ^ 20) : D.length ≤ 20 := by
  have h1 := revD_len 20 n.natAbs hn
  rw [← h.split, List.length_append] at h1
  omega

theorem byte_of (k : Nat) : Value.int .u8 (48 + ((k % 10 : Nat) : Int)) = bV (UInt8.ofNat (48 + k % 10)) := by
  unfold bV
  congr 1
  rw [UInt8.toNat_ofNat']
  omega
/-- One digit more. -/
theorem dec_step {n m m' c : Int} {D : List UInt8} {base : Nat} {v v' : Value} {w wr w1 : World} {o : Obj} (h : DecInv n m D base v w wr) (hm : m ≠ 0) (hm' : m'.natAbs = m.natAbs / 10) (hs : (0 ≤ m → 0 ≤ m') ∧ (m ≤ 0 → m' ≤ 0))
    (hc : c = 48 + ((m.natAbs % 10 : Nat) : Int)) (hown : w1.ownsRow base 5 1 v' (D.length + 1) (D.map bV ++ [.int .u8 c])) (hg : (wr.alloc o).grownBy w1 v.ownBlock) :
    DecInv n m' (D ++ [UInt8.ofNat (48 + m.natAbs % 10)]) base v' w w1 := by
  have hsz := hg.size
  refine ⟨⟨fun hn => hs.1 (h.sgn.1 hn), fun hn => hs.2 (h.sgn.2 hn)⟩, ?_, ?_, below_app h.below (Nat.le_refl _) h.le h.own hg, ?_⟩
  · rw [List.append_assoc, hm', List.singleton_append, ← revD_pos m.natAbs (by omega)]; exact h.split
  · subst hc
    rw [byte_of] at hown
    simpa using hown
  · have := h.le; simp at hsz; omega

/-- Loop 2: of the bytes E those behind B have been written, the last one first. -/
structure RevInv (E : List UInt8) (B : Int) (base base2 g cap : Nat) (o : Value) (w wr : World) : Prop where
  out : wr.ownsRow base2 5 1 o (E.length - (B + 1).toNat) ((E.drop (B + 1).toNat).reverse.map bV)
  src : wr.ownsRow base 5 1 (.slice (some ⟨g, 0, none⟩) E.length cap) E.length (E.map bV)
  below : Below base w wr
  le : base2 ≤ wr.heap.size
  lt : g < base2
  bs : base ≤ base2

theorem rev_start {E : List UInt8} {base g cap : Nat} {w wr : World} (h : wr.ownsRow base 5 1 (.slice (some ⟨g, 0, none⟩) E.length cap) E.length (E.map bV)) (hb : Below base w wr) (hle : base ≤ wr.heap.size) (hg : g < wr.heap.size) (Z : Nat) (hZ : wr.heap.size = Z) :
    RevInv E ((E.length : Int) - 1) base Z g cap (.slice (some ⟨wr.heap.size, 0, none⟩) 0 0) w (wr.alloc (.cells #[] 5)) := by
  have e : ((E.length : Int) - 1 + 1).toNat = E.length := by omega
  subst hZ
  refine ⟨?_, h.alloc _, hb.alloc hle _, by simp, hg, hle⟩
  rw [e, Nat.sub_self, List.drop_length]
  exact World.ownsRow_made _ _ _ (Nat.le_refl _) (by unfold maxLen; omega) rfl
theorem rev_step {E : List UInt8} {j base base2 g cap : Nat} {o o' : Value} {w wr w1 : World} {ob : Obj} (h : RevInv E (j : Int) base base2 g cap o w wr) (hj : j < E.length)
    (hown : w1.ownsRow base2 5 1 o' (E.length - ((j : Int) + 1).toNat + 1) ((E.drop ((j : Int) + 1).toNat).reverse.map bV ++ [.int .u8 (E[j].toNat : Int)])) (hg : (wr.alloc ob).grownBy w1 o.ownBlock) :
    RevInv E ((j : Int) - 1) base base2 g cap o' w w1 := by
  have hsz := hg.size
  have e1 : ((j : Int) + 1).toNat = j + 1 := by omega
  have e2 : ((j : Int) - 1 + 1).toNat = j := by omega
  have hl := h.le
  refine ⟨?_, (h.src.alloc ob).kept hg ?_, below_app h.below h.bs (Nat.le_trans h.bs h.le) h.out hg, by simp at hsz; omega, h.lt, h.bs⟩
  · rw [e1] at hown
    rw [e2, List.drop_eq_getElem_cons hj, List.reverse_cons, List.map_append, show E.length - j = E.length - (j + 1) + 1 by omega]
    exact hown
  · right
    intro he
    have := h.lt
    have h3 := (h.out.lt g he.symm).1
    omega
theorem dec_list {n : Int} {D : List UInt8} {base : Nat} {v : Value} {w wr : World} (h : DecInv n 0 D base v w wr) : D = revD n.natAbs := by
  have := h.split
  rw [Int.natAbs_zero, revD_zero, List.append_nil] at this
  exact this
theorem ret_bytes {a b : List UInt8} (h : a = b) : Ending.returned (.string ⟨a.toArray⟩) = .returned (.string ⟨b.toArray⟩) := by rw [h]
theorem revD_ne (m : Nat) (h : m ≠ 0) : 0 < (revD m).length := by rw [revD_pos m h]; simp
theorem rev_end {E : List UInt8} {base base2 g cap : Nat} {o : Value} {w wr : World} (h : RevInv E (-1) base base2 g cap o w wr) (hE : 0 < E.length) :
    ∃ g2 cap2, o = .slice (some ⟨g2, 0, none⟩) E.reverse.length cap2 ∧ (∀ j (hj : j < E.reverse.length), wr.cell? ((⟨g2, 0, none⟩ : Addr).add j) = some (.int .u8 (E.reverse[j].toNat : Int))) := by
  have ho : wr.ownsRow base2 5 1 o E.reverse.length (E.reverse.map bV) := by
    have := h.out
    simpa using this
  obtain ⟨g2, cap2, rfl, _, _, _⟩ := own_shape ho (by simpa using hE)
  refine ⟨g2, cap2, rfl, fun j hj => ?_⟩
  rw [add_plain, Nat.zero_add]
  exact own_byte ho j hj

set_option maxRecDepth 100000 in
set_option maxHeartbeats 1000000 in
theorem l01Dec_any (n : Int) (w : World) (h1 : -9223372036854775808 ≤ n) (h2 : n ≤ 9223372036854775807) :
    Calls Tryd.prog 81 #[.int .i64 n] w fun e w' => e = .returned (.string ⟨(Lib.itoa n).toArray⟩) ∧ Below w.heap.size w w' := by
  by_cases h0 : n = 0
  · subst h0
    rw [itoa_zero]
    go_enter Tryd.func81, Tryd.ntmps81
    go_wp2
    go_ret
    exact ⟨rfl, Below.refl _ _⟩
  have e0 : (n == 0) = false := by rw [beq_eq_false_iff_ne]; exact h0
  obtain ⟨i0, hi, hz0, hz1, hz2⟩ := info_parts Tryd.infoU8
  go_enter Tryd.func81, Tryd.ntmps81
  go_wp2
  go_loopw [3, 4] (fun v i wr => ∃ (m : Int) (D : List UInt8), i = .int .i64 m ∧ -9223372036854775808 ≤ m ∧ m ≤ 9223372036854775807 ∧ Hid (DecInv n m D w.heap.size v w wr)) (fun _ i _ => (intOf i).natAbs)
  case atStart => exact ⟨n, [], rfl, h1, h2, Lib.hid ⟨⟨fun h => h, fun h => by omega⟩, by simp, World.ownsRow_made _ _ _ (Nat.le_refl _) (by unfold maxLen; omega) rfl, (Below.refl _ _).alloc (Nat.le_refl _) _, by simp⟩⟩
  case round =>
    obtain ⟨m, D, rfl, hm1, hm2, hD⟩ := hrel
    have hlen := hD.out.len (by omega)
    have hle := hD.out.le
    by_cases hm : m = 0
    · subst hm
      have hDE := dec_list hD.out
      have hDl : 0 < D.length := by rw [hDE]; exact revD_ne _ (by omega)
      by_cases hn : n < 0
      · have HE : Hid (Lib.itoa n = (D ++ [45]).reverse) := Lib.hid (by
          obtain ⟨M, rfl⟩ : ∃ M : Nat, n = -(M : Int) := ⟨n.natAbs, by omega⟩
          rw [hDE, Int.natAbs_neg, Int.natAbs_natCast]; exact itoa_neg M (by omega))
        clear hDE
        go_wp2_with (at_builtin; refine wpList_app1 rfl _ _ 60 rfl w.heap.size 5 i0 (.int .u8 0) 1 Tryd.underlying60 hi hz0 hz1 hz2 rfl _ _ _ rfl hD.out.own _ rfl (by first | rfl | simp) rfl (by omega) (by omega) hle ?_)
        intro v' w1 hown' hgrow
        have hbw1 := Lib.hid (below_app hD.out.below (Nat.le_refl _) hle hD.out.own hgrow)
        have hle1 : w.heap.size ≤ w1.heap.size := by have := hgrow.size; simp at this; omega
        have hown1 : w1.ownsRow w.heap.size 5 1 v' (D ++ [45]).length ((D ++ [45]).map bV) := by simpa [bV] using hown'
        clear hown' hgrow
        obtain ⟨E, hE⟩ : ∃ E, E = D ++ [45] := ⟨_, rfl⟩
        have hEl : E.length ≤ 21 := by rw [hE]; simp; omega
        have hEl0 : 0 < E.length := by rw [hE]; simp
        rw [← hE] at hown1
        have HE2 := HE.out
        rw [← hE] at HE2
        clear HE hE
        have HE := Lib.hid HE2
        clear HE2
        obtain ⟨g, cap, rfl, hg1, hg2, hcap⟩ := own_shape hown1 hEl0
        obtain ⟨Z, hZ⟩ : ∃ Z, w1.heap.size = Z := ⟨_, rfl⟩
        have HR := Lib.hid (rev_start hown1 hbw1.out hle1 hg2 Z hZ)
        clear hZ
        clear hown1
        go_wp2
        go_loopw [6, 7] (fun o i wr => ∃ B : Int, -1 ≤ B ∧ B < (E.length : Int) ∧ i = .int .i64 B ∧ Hid (RevInv E B w.heap.size Z g cap o w wr)) (fun _ i _ => (intOf i + 1).toNat)
        case atStart => exact ⟨(E.length : Int) - 1, by omega, by omega, by first | rfl | go_num, HR⟩
        case round =>
          obtain ⟨B, hB1, hB2, rfl, hR⟩ := hrel
          by_cases hB : 0 ≤ B
          · obtain ⟨j, rfl⟩ : ∃ j : Nat, B = j := ⟨B.toNat, by omega⟩
            have hj : j < E.length := by omega
            have hcell := own_byte hR.out.src j hj
            have hle2 := hR.out.le
            generalize hc : (E[j].toNat : Int) = c at hcell
            have HC := Lib.hid hc
            clear hc
            have hro := hR.out.out
            generalize hX : ((E.drop ((j : Int) + 1).toNat).reverse.map bV) = X at hro
            generalize hL : E.length - ((j : Int) + 1).toNat = L at hro
            have hL2 : L + 1 ≤ 100 := by omega
            have HX := Lib.hid hX
            have HL := Lib.hid hL
            clear hX hL
            go_wp2_with (at_builtin; refine wpList_app1 rfl _ _ 60 rfl Z 5 i0 (.int .u8 0) 1 Tryd.underlying60 hi hz0 hz1 hz2 rfl _ _ _ rfl hro _ rfl (by first | rfl | simp) rfl (by omega) (by omega) hle2 ?_)
            intro v2 w2 hown2 hgrow2
            have hN := Lib.hid (rev_step hR.out hj (by rw [HX.out, HL.out, HC.out]; exact hown2) hgrow2)
            clear hown2 hgrow2
            go_wp2
            go_roundw
            case rel => exact ⟨_, by omega, by omega, rfl, hN⟩
            case measure => simp [intOf]
          · obtain rfl : B = -1 := by omega
            obtain ⟨g2, cap2, rfl, hcs⟩ := rev_end hR.out (by omega)
            have hcv := run_convert_bytes_back (P := Tryd.prog) wr 60 9 5 ⟨g2, 0, none⟩ cap2 E.reverse Tryd.underlying60 Tryd.underlying5 Tryd.underlying9 hcs
            rw [List.length_reverse] at hcv
            have hbw := Lib.hid hR.out.below
            clear hcs
            go_wp2
            go_ret
            exact ⟨ret_bytes HE.out.symm, hbw.out⟩

      · have HE : Hid (Lib.itoa n = D.reverse) := Lib.hid (by
          obtain ⟨M, rfl⟩ : ∃ M : Nat, n = (M : Int) := ⟨n.natAbs, by omega⟩
          rw [hDE, Int.natAbs_natCast]; exact itoa_pos M (by omega))
        clear hDE
        obtain ⟨g, cap, rfl, hg1, hg2, hcap⟩ := own_shape hD.out.own hDl
        obtain ⟨Z, hZ⟩ : ∃ Z, wr.heap.size = Z := ⟨_, rfl⟩
        have HR := Lib.hid (rev_start hD.out.own hD.out.below hle hg2 Z hZ)
        clear hZ
        go_wp2
        go_loopw [6, 7] (fun o i wr => ∃ B : Int, -1 ≤ B ∧ B < (D.length : Int) ∧ i = .int .i64 B ∧ Hid (RevInv D B w.heap.size Z g cap o w wr)) (fun _ i _ => (intOf i + 1).toNat)
        case atStart => exact ⟨(D.length : Int) - 1, by omega, by omega, by first | rfl | go_num, HR⟩
        case round =>
          obtain ⟨B, hB1, hB2, rfl, hR⟩ := hrel
          by_cases hB : 0 ≤ B
          · obtain ⟨j, rfl⟩ : ∃ j : Nat, B = j := ⟨B.toNat, by omega⟩
            have hj : j < D.length := by omega
            have hcell := own_byte hR.out.src j hj
            have hle2 := hR.out.le
            generalize hc : (D[j].toNat : Int) = c at hcell
            have HC := Lib.hid hc
            clear hc
            have hro := hR.out.out
            generalize hX : ((D.drop ((j : Int) + 1).toNat).reverse.map bV) = X at hro
            generalize hL : D.length - ((j : Int) + 1).toNat = L at hro
            have hL2 : L + 1 ≤ 100 := by omega
            have HX := Lib.hid hX
            have HL := Lib.hid hL
            clear hX hL
            go_wp2_with (at_builtin; refine wpList_app1 rfl _ _ 60 rfl Z 5 i0 (.int .u8 0) 1 Tryd.underlying60 hi hz0 hz1 hz2 rfl _ _ _ rfl hro _ rfl (by first | rfl | simp) rfl (by omega) (by omega) hle2 ?_)
            intro v2 w2 hown2 hgrow2
            have hN := Lib.hid (rev_step hR.out hj (by rw [HX.out, HL.out, HC.out]; exact hown2) hgrow2)
            clear hown2 hgrow2
            go_wp2
            go_roundw
            case rel => exact ⟨_, by omega, by omega, rfl, hN⟩
            case measure => simp [intOf]
          · obtain rfl : B = -1 := by omega
            obtain ⟨g2, cap2, rfl, hcs⟩ := rev_end hR.out (by omega)
            have hcv := run_convert_bytes_back (P := Tryd.prog) wr 60 9 5 ⟨g2, 0, none⟩ cap2 D.reverse Tryd.underlying60 Tryd.underlying5 Tryd.underlying9 hcs
            rw [List.length_reverse] at hcv
            have hbw := Lib.hid hR.out.below
            clear hcs
            go_wp2
            go_ret
            exact ⟨ret_bytes HE.out.symm, hbw.out⟩

    · have em : (m == 0) = false := by rw [beq_eq_false_iff_ne]; exact hm
      have em2 : (m != 0) = true := by simp [hm]
      by_cases hs : 0 ≤ m
      · obtain ⟨M, rfl⟩ : ∃ M : Nat, m = M := ⟨m.toNat, by omega⟩
        go_wp2_with (at_builtin; refine wpList_app1 rfl _ _ 60 rfl w.heap.size 5 i0 (.int .u8 0) 1 Tryd.underlying60 hi hz0 hz1 hz2 rfl _ _ _ rfl hD.out.own _ rfl (by first | rfl | simp) rfl (by omega) (by omega) hle ?_)
        intro v' w1 hown' hgrow
        have hN := Lib.hid (dec_step (m' := (M : Int) / 10) hD.out hm (by omega) (by omega) (by omega) hown' hgrow)
        clear hown' hgrow
        go_wp2
        go_roundw
        case rel => exact ⟨_, _, rfl, by omega, by omega, hN⟩
        case measure => simp [intOf]; omega
      · obtain ⟨M, rfl⟩ : ∃ M : Nat, m = -(M : Int) := ⟨m.natAbs, by omega⟩
        have et : (-(M : Int)).tmod 10 = -((M : Int) % 10) := by rw [Int.neg_tmod]; rfl
        have eq : (-(M : Int)).tdiv 10 = -((M : Int) / 10) := by rw [Int.neg_tdiv]; rfl
        by_cases h9 : (M : Int) % 10 = 0
        · go_wp2_with (at_builtin; refine wpList_app1 rfl _ _ 60 rfl w.heap.size 5 i0 (.int .u8 0) 1 Tryd.underlying60 hi hz0 hz1 hz2 rfl _ _ _ rfl hD.out.own _ rfl (by first | rfl | simp) rfl (by omega) (by omega) hle ?_)
          intro v' w1 hown' hgrow
          have hN := Lib.hid (dec_step (m' := -((M : Int) / 10)) hD.out hm (by omega) (by omega) (by omega) hown' hgrow)
          clear hown' hgrow
          go_wp2
          go_roundw
          case rel => exact ⟨_, _, rfl, by omega, by omega, hN⟩
          case measure => simp [intOf]; omega
        · go_wp2_with (at_builtin; refine wpList_app1 rfl _ _ 60 rfl w.heap.size 5 i0 (.int .u8 0) 1 Tryd.underlying60 hi hz0 hz1 hz2 rfl _ _ _ rfl hD.out.own _ rfl (by first | rfl | simp) rfl (by omega) (by omega) hle ?_)
          intro v' w1 hown' hgrow
          have hN := Lib.hid (dec_step (m' := -((M : Int) / 10)) hD.out hm (by omega) (by omega) (by omega) hown' hgrow)
          clear hown' hgrow
          go_wp2
          go_roundw
          case rel => exact ⟨_, _, rfl, by omega, by omega, hN⟩
          case measure => simp [intOf]; omega
end Go.Proofs.YthjimogeimigmaaDoor
