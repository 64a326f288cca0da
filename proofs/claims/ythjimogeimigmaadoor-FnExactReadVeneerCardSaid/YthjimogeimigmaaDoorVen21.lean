/- The veneer with a text: spec. -/
import Derived.Test.YthjimogeimigmaaDoorVen20
import Derived.Test.YthjimogeimigmaaDoorVen12
import Derived.Test.YthjimogeimigmaaDoorTyVeneer
namespace Go.Proofs.YthjimogeimigmaaDoor
open Seq2 Go.ChangeShapes Go.WideShapes Go.ChangeAt Go.RowKit
set_option linter.unusedVariables false
set_option linter.unusedSimpArgs false

def vrC (a b c : List UInt8) : Option Vn := match numI b, numI c with | some x, some y => if venB (tb a) x y then some (tb a, x, y) else none | _, _ => none
def vrO (l : List UInt8) : Option Vn := match spl 32 l with | [a, b, c] => vrC a b c | _ => none
set_option maxRecDepth 100000 in
set_option maxHeartbeats 8000000 in
theorem read3_spec (s : ByteArray) (a b c : List UInt8) (w : World) (ha : a.length ≤ 1048576) (hb : b.length ≤ 1048576) (hc : c.length ≤ 1048576) (hsp : ∀ w1, Below w.heap.size w w1 → Calls Tryd.prog 83 #[.string s, .int .u8 32] w1 (Pc3 a b c w1)) :
    Calls Tryd.prog 69 #[.string s] w fun e w' => e = .returned (.tuple #[vnV ((vrC a b c).getD vn0), .bool (vrC a b c).isSome]) ∧ Below w.heap.size w w' := by
  have HSP := Lib.hid hsp
  have HZ := Lib.hid (World.alloc_heap_new w (.cells #[.string ⟨#[]⟩, .int .i64 0, .int .i64 0] 34))
  have HA := Lib.hid (one_alloc (w := w) (.cells #[.string ⟨#[]⟩, .int .i64 0, .int .i64 0] 34))
  have NUM : Hid (∀ (p : List UInt8) (w1 : World), p.length ≤ 1048576 → Below w.heap.size w w1 → Calls Tryd.prog 84 #[.string (tb p)] w1 fun e w' => e = .returned (.tuple #[.int .i64 ((numI p).getD 0), .bool (numI p).isSome]) ∧ Below w1.heap.size w1 w') := Lib.hid (fun p w1 hp hb => by
    have h := l01Number_t (tb p) w1 (by rw [tb_size]; exact hp)
    rw [tb_data] at h
    exact h.mono fun e w' ⟨he, hw⟩ => ⟨he, hw ▸ Below.refl _ _⟩)
  have hvrc : vrC a b c = match numI b, numI c with | some x, some y => if venB (tb a) x y then some (tb a, x, y) else none | _, _ => none := rfl
  clear hsp
  cases h1 : numI b with
  | none =>
    cases h2 : numI c with
    | none =>
      have HR := Lib.hid (show vrC a b c = none by rw [hvrc, h1, h2])
      have HV := Lib.hid (show vnV ((vrC a b c).getD vn0) = .agg #[.string ⟨#[]⟩, .int .i64 0, .int .i64 0] by rw [HR.out]; rfl)
      rw [HV.out, HR.out]
      simp only [Option.isSome_some, Option.isSome_none]
      have HN1 := Lib.hid h1
      have HN2 := Lib.hid h2
      clear hvrc h1 h2
      go_enter Tryd.func69, Tryd.ntmps69
      go_wp2_with fail
      refine (HSP.out _ HA.out).mono ?_
      rintro e w1 ⟨g, cap, rfl, hgl, k0, k1, k2, g1⟩
      have HG := Lib.hid (bseq HA.out g1)
      have HZ1 := Lib.hid ((g1.block _ (by simp)).trans HZ.out)
      clear g1
      go_wp2_with fail
      refine (NUM.out b _ hb HG.out).mono ?_
      rintro e w2 ⟨rfl, g2⟩
      replace HG := Lib.hid (bseq HG.out g2)
      replace HZ1 := Lib.hid ((g2.block _ (blk_lt3 HZ1.out)).trans HZ1.out)
      replace k0 := (g2.cell (p := ⟨g, 0, none⟩) hgl).trans k0
      replace k1 := (g2.cell (p := ⟨g, 1, none⟩) hgl).trans k1
      replace k2 := (g2.cell (p := ⟨g, 2, none⟩) hgl).trans k2
      replace hgl := Nat.lt_of_lt_of_le hgl g2.size
      clear g2
      rw [HN1.out]
      simp only [Option.getD_none, Option.isSome_none]
      go_wp2_with fail
      refine (NUM.out c _ hc HG.out).mono ?_
      rintro e w3 ⟨rfl, g3⟩
      replace HG := Lib.hid (bseq HG.out g3)
      replace HZ1 := Lib.hid ((g3.block _ (blk_lt3 HZ1.out)).trans HZ1.out)
      replace k0 := (g3.cell (p := ⟨g, 0, none⟩) hgl).trans k0
      replace k1 := (g3.cell (p := ⟨g, 1, none⟩) hgl).trans k1
      replace k2 := (g3.cell (p := ⟨g, 2, none⟩) hgl).trans k2
      replace hgl := Nat.lt_of_lt_of_le hgl g3.size
      clear g3
      rw [HN2.out]
      simp only [Option.getD_none, Option.isSome_none]
      have hz := HZ1.out
      have hzl := blk_lt3 hz
      obtain ⟨z0, fz0, z1, fz1, z2, fz2⟩ := cells3_of hz
      go_wp2
      have hz2 := (Below.heap_alloc _ (.cells #[.string (tb a), .int .i64 0, .int .i64 0] 34) w.heap.size (by simpa using hzl)).trans (stored3 (x0 := .string ⟨#[]⟩) (x1 := .int .i64 0) (x2 := .int .i64 0) hz).here
      obtain ⟨q0, _, q1, _, q2, _⟩ := cells3_of hz2
      refine bodyPost_ret (v := .tuple #[.agg #[.string ⟨#[]⟩, .int .i64 0, .int .i64 0], .bool false]) ?_ rfl ⟨rfl, ?_⟩
      · clear hz hz2 z0 z1 z2 fz0 fz1 fz2 k0 k1 k2
        generalize World.alloc _ _ = W at *
        simp [results, Tryd.results69, go_sem, q0, q1, q2]
      · have HBX := HG.out
        (repeat (first | exact HBX | refine Below.setCell ?_ (by first | exact Nat.le_refl _ | (dsimp only; omega) | (simp; done) | (simp; omega)) _ | refine Below.alloc ?_ (by first | exact Nat.le_refl _ | omega | (simp; done) | (simp; omega)) _))
    | some y =>
      have HR := Lib.hid (show vrC a b c = none by rw [hvrc, h1, h2])
      have HV := Lib.hid (show vnV ((vrC a b c).getD vn0) = .agg #[.string ⟨#[]⟩, .int .i64 0, .int .i64 0] by rw [HR.out]; rfl)
      rw [HV.out, HR.out]
      simp only [Option.isSome_some, Option.isSome_none]
      have HN1 := Lib.hid h1
      have HN2 := Lib.hid h2
      clear hvrc h1 h2
      go_enter Tryd.func69, Tryd.ntmps69
      go_wp2_with fail
      refine (HSP.out _ HA.out).mono ?_
      rintro e w1 ⟨g, cap, rfl, hgl, k0, k1, k2, g1⟩
      have HG := Lib.hid (bseq HA.out g1)
      have HZ1 := Lib.hid ((g1.block _ (by simp)).trans HZ.out)
      clear g1
      go_wp2_with fail
      refine (NUM.out b _ hb HG.out).mono ?_
      rintro e w2 ⟨rfl, g2⟩
      replace HG := Lib.hid (bseq HG.out g2)
      replace HZ1 := Lib.hid ((g2.block _ (blk_lt3 HZ1.out)).trans HZ1.out)
      replace k0 := (g2.cell (p := ⟨g, 0, none⟩) hgl).trans k0
      replace k1 := (g2.cell (p := ⟨g, 1, none⟩) hgl).trans k1
      replace k2 := (g2.cell (p := ⟨g, 2, none⟩) hgl).trans k2
      replace hgl := Nat.lt_of_lt_of_le hgl g2.size
      clear g2
      rw [HN1.out]
      simp only [Option.getD_none, Option.isSome_none]
      go_wp2_with fail
      refine (NUM.out c _ hc HG.out).mono ?_
      rintro e w3 ⟨rfl, g3⟩
      replace HG := Lib.hid (bseq HG.out g3)
      replace HZ1 := Lib.hid ((g3.block _ (blk_lt3 HZ1.out)).trans HZ1.out)
      replace k0 := (g3.cell (p := ⟨g, 0, none⟩) hgl).trans k0
      replace k1 := (g3.cell (p := ⟨g, 1, none⟩) hgl).trans k1
      replace k2 := (g3.cell (p := ⟨g, 2, none⟩) hgl).trans k2
      replace hgl := Nat.lt_of_lt_of_le hgl g3.size
      clear g3
      rw [HN2.out]
      simp only [Option.getD_some, Option.isSome_some]
      have hz := HZ1.out
      have hzl := blk_lt3 hz
      obtain ⟨z0, fz0, z1, fz1, z2, fz2⟩ := cells3_of hz
      go_wp2
      have hz2 := (Below.heap_alloc _ (.cells #[.string (tb a), .int .i64 0, .int .i64 y] 34) w.heap.size (by simpa using hzl)).trans (stored3 (x0 := .string ⟨#[]⟩) (x1 := .int .i64 0) (x2 := .int .i64 0) hz).here
      obtain ⟨q0, _, q1, _, q2, _⟩ := cells3_of hz2
      refine bodyPost_ret (v := .tuple #[.agg #[.string ⟨#[]⟩, .int .i64 0, .int .i64 0], .bool false]) ?_ rfl ⟨rfl, ?_⟩
      · clear hz hz2 z0 z1 z2 fz0 fz1 fz2 k0 k1 k2
        generalize World.alloc _ _ = W at *
        simp [results, Tryd.results69, go_sem, q0, q1, q2]
      · have HBX := HG.out
        (repeat (first | exact HBX | refine Below.setCell ?_ (by first | exact Nat.le_refl _ | (dsimp only; omega) | (simp; done) | (simp; omega)) _ | refine Below.alloc ?_ (by first | exact Nat.le_refl _ | omega | (simp; done) | (simp; omega)) _))
  | some x =>
    cases h2 : numI c with
    | none =>
      have HR := Lib.hid (show vrC a b c = none by rw [hvrc, h1, h2])
      have HV := Lib.hid (show vnV ((vrC a b c).getD vn0) = .agg #[.string ⟨#[]⟩, .int .i64 0, .int .i64 0] by rw [HR.out]; rfl)
      rw [HV.out, HR.out]
      simp only [Option.isSome_some, Option.isSome_none]
      have HN1 := Lib.hid h1
      have HN2 := Lib.hid h2
      clear hvrc h1 h2
      go_enter Tryd.func69, Tryd.ntmps69
      go_wp2_with fail
      refine (HSP.out _ HA.out).mono ?_
      rintro e w1 ⟨g, cap, rfl, hgl, k0, k1, k2, g1⟩
      have HG := Lib.hid (bseq HA.out g1)
      have HZ1 := Lib.hid ((g1.block _ (by simp)).trans HZ.out)
      clear g1
      go_wp2_with fail
      refine (NUM.out b _ hb HG.out).mono ?_
      rintro e w2 ⟨rfl, g2⟩
      replace HG := Lib.hid (bseq HG.out g2)
      replace HZ1 := Lib.hid ((g2.block _ (blk_lt3 HZ1.out)).trans HZ1.out)
      replace k0 := (g2.cell (p := ⟨g, 0, none⟩) hgl).trans k0
      replace k1 := (g2.cell (p := ⟨g, 1, none⟩) hgl).trans k1
      replace k2 := (g2.cell (p := ⟨g, 2, none⟩) hgl).trans k2
      replace hgl := Nat.lt_of_lt_of_le hgl g2.size
      clear g2
      rw [HN1.out]
      simp only [Option.getD_some, Option.isSome_some]
      go_wp2_with fail
      refine (NUM.out c _ hc HG.out).mono ?_
      rintro e w3 ⟨rfl, g3⟩
      replace HG := Lib.hid (bseq HG.out g3)
      replace HZ1 := Lib.hid ((g3.block _ (blk_lt3 HZ1.out)).trans HZ1.out)
      replace k0 := (g3.cell (p := ⟨g, 0, none⟩) hgl).trans k0
      replace k1 := (g3.cell (p := ⟨g, 1, none⟩) hgl).trans k1
      replace k2 := (g3.cell (p := ⟨g, 2, none⟩) hgl).trans k2
      replace hgl := Nat.lt_of_lt_of_le hgl g3.size
      clear g3
      rw [HN2.out]
      simp only [Option.getD_none, Option.isSome_none]
      have hz := HZ1.out
      have hzl := blk_lt3 hz
      obtain ⟨z0, fz0, z1, fz1, z2, fz2⟩ := cells3_of hz
      go_wp2
      have hz2 := (Below.heap_alloc _ (.cells #[.string (tb a), .int .i64 x, .int .i64 0] 34) w.heap.size (by simpa using hzl)).trans (stored3 (x0 := .string ⟨#[]⟩) (x1 := .int .i64 0) (x2 := .int .i64 0) hz).here
      obtain ⟨q0, _, q1, _, q2, _⟩ := cells3_of hz2
      refine bodyPost_ret (v := .tuple #[.agg #[.string ⟨#[]⟩, .int .i64 0, .int .i64 0], .bool false]) ?_ rfl ⟨rfl, ?_⟩
      · clear hz hz2 z0 z1 z2 fz0 fz1 fz2 k0 k1 k2
        generalize World.alloc _ _ = W at *
        simp [results, Tryd.results69, go_sem, q0, q1, q2]
      · have HBX := HG.out
        (repeat (first | exact HBX | refine Below.setCell ?_ (by first | exact Nat.le_refl _ | (dsimp only; omega) | (simp; done) | (simp; omega)) _ | refine Below.alloc ?_ (by first | exact Nat.le_refl _ | omega | (simp; done) | (simp; omega)) _))
    | some y =>
      cases hv : venB (tb a) x y with
      | false =>
        have HR := Lib.hid (show vrC a b c = none by rw [hvrc, h1, h2]; simp [hv])
        have HV := Lib.hid (show vnV ((vrC a b c).getD vn0) = .agg #[.string ⟨#[]⟩, .int .i64 0, .int .i64 0] by rw [HR.out]; rfl)
        rw [HV.out, HR.out]
        simp only [Option.isSome_some, Option.isSome_none]
        have HN1 := Lib.hid h1
        have HN2 := Lib.hid h2
        clear hvrc h1 h2
        go_enter Tryd.func69, Tryd.ntmps69
        go_wp2_with fail
        refine (HSP.out _ HA.out).mono ?_
        rintro e w1 ⟨g, cap, rfl, hgl, k0, k1, k2, g1⟩
        have HG := Lib.hid (bseq HA.out g1)
        have HZ1 := Lib.hid ((g1.block _ (by simp)).trans HZ.out)
        clear g1
        go_wp2_with fail
        refine (NUM.out b _ hb HG.out).mono ?_
        rintro e w2 ⟨rfl, g2⟩
        replace HG := Lib.hid (bseq HG.out g2)
        replace HZ1 := Lib.hid ((g2.block _ (blk_lt3 HZ1.out)).trans HZ1.out)
        replace k0 := (g2.cell (p := ⟨g, 0, none⟩) hgl).trans k0
        replace k1 := (g2.cell (p := ⟨g, 1, none⟩) hgl).trans k1
        replace k2 := (g2.cell (p := ⟨g, 2, none⟩) hgl).trans k2
        replace hgl := Nat.lt_of_lt_of_le hgl g2.size
        clear g2
        rw [HN1.out]
        simp only [Option.getD_some, Option.isSome_some]
        go_wp2_with fail
        refine (NUM.out c _ hc HG.out).mono ?_
        rintro e w3 ⟨rfl, g3⟩
        replace HG := Lib.hid (bseq HG.out g3)
        replace HZ1 := Lib.hid ((g3.block _ (blk_lt3 HZ1.out)).trans HZ1.out)
        replace k0 := (g3.cell (p := ⟨g, 0, none⟩) hgl).trans k0
        replace k1 := (g3.cell (p := ⟨g, 1, none⟩) hgl).trans k1
        replace k2 := (g3.cell (p := ⟨g, 2, none⟩) hgl).trans k2
        replace hgl := Nat.lt_of_lt_of_le hgl g3.size
        clear g3
        rw [HN2.out]
        simp only [Option.getD_some, Option.isSome_some]
        go_wp2_with fail
        refine (ok_ven w3.heap.size 0 (tb a) x y _ (VC.box w3 (tb a) x y)).mono ?_
        rintro e w4 ⟨rfl, g4⟩
        have hz := (g4.block _ (by have := blk_lt3 HZ1.out; simp; omega)).trans ((Below.heap_alloc _ _ _ (blk_lt3 HZ1.out)).trans HZ1.out)
        have hvb := (g4.block _ (by simp)).trans (World.alloc_heap_new w3 (.cells #[.string (tb a), .int .i64 x, .int .i64 y] 34))
        replace HG := Lib.hid (bseq (HG.out.alloc HG.out.size _) g4)
        clear g4 k0 k1 k2
        rw [hv]
        have hvl := blk_lt3 hvb
        obtain ⟨k0, _, k1, _, k2, _⟩ := cells3_of hvb
        have hzl := blk_lt3 hz
        obtain ⟨z0, fz0, z1, fz1, z2, fz2⟩ := cells3_of hz
        go_wp2
        have q := (stored3 (x0 := .string ⟨#[]⟩) (x1 := .int .i64 0) (x2 := .int .i64 0) hz).here
        obtain ⟨q0, _, q1, _, q2, _⟩ := cells3_of q
        refine bodyPost_ret (v := .tuple #[.agg #[.string ⟨#[]⟩, .int .i64 0, .int .i64 0], .bool false]) ?_ rfl ⟨rfl, ?_⟩
        · clear hz q z0 z1 z2 fz0 fz1 fz2
          generalize World.setCell _ _ _ = W at *
          simp [results, Tryd.results69, go_sem, q0, q1, q2]
        · have HBX := HG.out
          (repeat (first | exact HBX | refine Below.setCell ?_ (by first | exact Nat.le_refl _ | (dsimp only; omega) | (simp; done) | (simp; omega)) _ | refine Below.alloc ?_ (by first | exact Nat.le_refl _ | omega | (simp; done) | (simp; omega)) _))
      | true =>
        have HR := Lib.hid (show vrC a b c = some (tb a, x, y) by rw [hvrc, h1, h2]; simp [hv])
        have HV := Lib.hid (show vnV ((vrC a b c).getD vn0) = .agg #[.string (tb a), .int .i64 x, .int .i64 y] by rw [HR.out]; rfl)
        rw [HV.out, HR.out]
        simp only [Option.isSome_some, Option.isSome_none]
        have HN1 := Lib.hid h1
        have HN2 := Lib.hid h2
        clear hvrc h1 h2
        go_enter Tryd.func69, Tryd.ntmps69
        go_wp2_with fail
        refine (HSP.out _ HA.out).mono ?_
        rintro e w1 ⟨g, cap, rfl, hgl, k0, k1, k2, g1⟩
        have HG := Lib.hid (bseq HA.out g1)
        have HZ1 := Lib.hid ((g1.block _ (by simp)).trans HZ.out)
        clear g1
        go_wp2_with fail
        refine (NUM.out b _ hb HG.out).mono ?_
        rintro e w2 ⟨rfl, g2⟩
        replace HG := Lib.hid (bseq HG.out g2)
        replace HZ1 := Lib.hid ((g2.block _ (blk_lt3 HZ1.out)).trans HZ1.out)
        replace k0 := (g2.cell (p := ⟨g, 0, none⟩) hgl).trans k0
        replace k1 := (g2.cell (p := ⟨g, 1, none⟩) hgl).trans k1
        replace k2 := (g2.cell (p := ⟨g, 2, none⟩) hgl).trans k2
        replace hgl := Nat.lt_of_lt_of_le hgl g2.size
        clear g2
        rw [HN1.out]
        simp only [Option.getD_some, Option.isSome_some]
        go_wp2_with fail
        refine (NUM.out c _ hc HG.out).mono ?_
        rintro e w3 ⟨rfl, g3⟩
        replace HG := Lib.hid (bseq HG.out g3)
        replace HZ1 := Lib.hid ((g3.block _ (blk_lt3 HZ1.out)).trans HZ1.out)
        replace k0 := (g3.cell (p := ⟨g, 0, none⟩) hgl).trans k0
        replace k1 := (g3.cell (p := ⟨g, 1, none⟩) hgl).trans k1
        replace k2 := (g3.cell (p := ⟨g, 2, none⟩) hgl).trans k2
        replace hgl := Nat.lt_of_lt_of_le hgl g3.size
        clear g3
        rw [HN2.out]
        simp only [Option.getD_some, Option.isSome_some]
        go_wp2_with fail
        refine (ok_ven w3.heap.size 0 (tb a) x y _ (VC.box w3 (tb a) x y)).mono ?_
        rintro e w4 ⟨rfl, g4⟩
        have hz := (g4.block _ (by have := blk_lt3 HZ1.out; simp; omega)).trans ((Below.heap_alloc _ _ _ (blk_lt3 HZ1.out)).trans HZ1.out)
        have hvb := (g4.block _ (by simp)).trans (World.alloc_heap_new w3 (.cells #[.string (tb a), .int .i64 x, .int .i64 y] 34))
        replace HG := Lib.hid (bseq (HG.out.alloc HG.out.size _) g4)
        clear g4 k0 k1 k2
        rw [hv]
        have hvl := blk_lt3 hvb
        obtain ⟨k0, _, k1, _, k2, _⟩ := cells3_of hvb
        have hzl := blk_lt3 hz
        obtain ⟨z0, fz0, z1, fz1, z2, fz2⟩ := cells3_of hz
        go_wp2
        have q := (stored3 (x0 := .string (tb a)) (x1 := .int .i64 x) (x2 := .int .i64 y) hz).here
        obtain ⟨q0, _, q1, _, q2, _⟩ := cells3_of q
        refine bodyPost_ret (v := .tuple #[.agg #[.string (tb a), .int .i64 x, .int .i64 y], .bool true]) ?_ rfl ⟨rfl, ?_⟩
        · clear hz q z0 z1 z2 fz0 fz1 fz2
          generalize World.setCell _ _ _ = W at *
          simp [results, Tryd.results69, go_sem, q0, q1, q2]
        · have HBX := HG.out
          (repeat (first | exact HBX | refine Below.setCell ?_ (by first | exact Nat.le_refl _ | (dsimp only; omega) | (simp; done) | (simp; omega)) _ | refine Below.alloc ?_ (by first | exact Nat.le_refl _ | omega | (simp; done) | (simp; omega)) _))
set_option maxRecDepth 100000 in
set_option maxHeartbeats 4000000 in
theorem read3_spec_no (s : ByteArray) (w : World) (hsp : ∀ w1, Below w.heap.size w w1 → Calls Tryd.prog 83 #[.string s, .int .u8 32] w1 (PcN w1)) :
    Calls Tryd.prog 69 #[.string s] w fun e w' => e = .returned (.tuple #[vnV vn0, .bool false]) ∧ Below w.heap.size w w' := by
  have HSP := Lib.hid hsp
  have HZ := Lib.hid (World.alloc_heap_new w (.cells #[.string ⟨#[]⟩, .int .i64 0, .int .i64 0] 34))
  have HA := Lib.hid (one_alloc (w := w) (.cells #[.string ⟨#[]⟩, .int .i64 0, .int .i64 0] 34))
  clear hsp
  rw [show vnV vn0 = .agg #[.string ⟨#[]⟩, .int .i64 0, .int .i64 0] from rfl]
  go_enter Tryd.func69, Tryd.ntmps69
  go_wp2_with fail
  refine (HSP.out _ HA.out).mono ?_
  rintro e w1 ⟨ao, n, cap, rfl, hn3, hn, g1⟩
  have HG := Lib.hid (bseq HA.out g1)
  have hz := (g1.block _ (by simp)).trans HZ.out
  clear g1
  have he : ((n : Int) != 3) = true := by simp; omega
  have hzl := blk_lt3 hz
  obtain ⟨z0, fz0, z1, fz1, z2, fz2⟩ := cells3_of hz
  go_wp2
  have q := (stored3 (x0 := .string ⟨#[]⟩) (x1 := .int .i64 0) (x2 := .int .i64 0) hz).here
  obtain ⟨q0, _, q1, _, q2, _⟩ := cells3_of q
  refine bodyPost_ret (v := .tuple #[.agg #[.string ⟨#[]⟩, .int .i64 0, .int .i64 0], .bool false]) ?_ rfl ⟨rfl, ?_⟩
  · clear hz q z0 z1 z2 fz0 fz1 fz2
    generalize World.setCell _ _ _ = W at *
    simp [results, Tryd.results69, go_sem, q0, q1, q2]
  · have HBX := HG.out
    (repeat (first | exact HBX | refine Below.setCell ?_ (by first | exact Nat.le_refl _ | (dsimp only; omega) | (simp; done) | (simp; omega)) _ | refine Below.alloc ?_ (by first | exact Nat.le_refl _ | omega | (simp; done) | (simp; omega)) _))
end Go.Proofs.YthjimogeimigmaaDoor
