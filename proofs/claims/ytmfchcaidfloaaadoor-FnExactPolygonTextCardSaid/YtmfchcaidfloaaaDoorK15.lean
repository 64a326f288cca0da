/- Several texts in one: Own, Ints, Marks, DecMath, Dec, Decimal. -/
import Derived.WalkKit
import Derived.ProofKit
import Derived.OpenShut
import Derived.Lib.Hide
import Derived.LoopTactic
import Derived.Laws.OwnMore
import Derived.Test.YtmfchcaidfloaaaDoorProg
import Derived.Test.YtmfchcaidfloaaaDoorK1
import Derived.Deep.QuietTactic
import Derived.BigQuiet
import Derived.OwnWalk
import Derived.Lib.ItoaNum
import Derived.Laws.IdiomStrings
import Derived.IntWalk
import Derived.Test.YtmfchcaidfloaaaDoorShelfNum
import Derived.Lib.AppendIntMem
import Derived.Lib.SmallJoins
namespace Go.Proofs.YtmfchcaidfloaaaDoor
open Go.ChangeShapes Go.WideShapes Go.ChangeAt Go.RowKit

/-- append(out, x), out the call's own: x lies in a new block of one cell. -/
theorem wpList_app1 {P : Program} {w : World} {u : Value} {te : TypeId} {ops : Array Oper} {rest : List Oper} {o : Oper} {a : Act} {Q : Exit → Act → World → Prop} (hgd : o.guard = none) (s x : Operand) (t : TypeId)
    (ho : o.op = .call { callee := .builtin .append, args := #[s, x], argTypes := #[t, t] })
    (base : Nat) (e : TypeId) (i : TypeInfo) (z : Value) (bytes : Nat) (ht : P.underlying t = some (.slice e)) (hi : P.info? e = some i) (hz : i.zero = some z)
    (hsize : i.size = 1) (hby : i.bytes = bytes) (hzs : z.cells.size = 1)
    (v : Value) (n : Nat) (xs : List Value) (hs : a.eval s = v) (hown : w.ownsRow base e 1 v n xs)
    (b : Nat) (hx : a.eval x = .slice (some ⟨b, 0, none⟩) 1 1) (hb : b = w.heap.size) (h1 : u.oneCell' = true)
    (h63 : n + 1 ≤ 140737488355328) (hbytes : (n + 1) * bytes ≤ 140737488355328) (hbase : base ≤ w.heap.size)
    (h : ∀ v' w', w'.ownsRow base e 1 v' (n + 1) (xs ++ [u]) → (w.alloc (.cells #[u] te)).grownBy w' v.ownBlock → wpList P ops Q rest (a.put o.dst v') w') : wpList P ops Q (o :: rest) a (w.alloc (.cells #[u] te)) := by
  subst hb
  refine wpList_append_own (w.alloc (.cells #[u] te)) hgd s x t ho base e i z 1 bytes ht hi hz hsize hby hzs (by omega) v n xs hs (hown.alloc _) ⟨w.heap.size, 0, none⟩ 1 1 [u] hx rfl ?_ ?_ ?_ hbytes (by simp; omega) (fun v' w' h2 h3 _ => h v' w' h2 h3)
  · intro j y hj
    match j, hj with
    | 0, hj => simp at hj; subst hj; simp [Addr.add]
  · intro y hy; simp at hy; subst hy; exact h1
  · unfold maxLen; omega

/-- What a round's append leaves of the old memory. -/
theorem below_app {B base e size n : Nat} {v : Value} {xs : List Value} {w wr w1 : World} {o : Obj} (hb : Below B w wr) (hB : B ≤ base) (hBs : B ≤ wr.heap.size) (hown : wr.ownsRow base e size v n xs)
    (hg : (wr.alloc o).grownBy w1 v.ownBlock) : Below B w w1 :=
  (hb.alloc hBs o).grown hg (by simp; omega) (fun k hk => Nat.le_trans hB (hown.lt k hk).1)
theorem bytes_one (n : Int) : (Value.int .u8 n).oneCell' = true := rfl
/-- A slice that owns something is no nil slice. -/
theorem own_shape {w : World} {base e n : Nat} {v : Value} {xs : List Value} (h : w.ownsRow base e 1 v n xs) (hn : 0 < n) :
    ∃ g cap, v = .slice (some ⟨g, 0, none⟩) n cap ∧ base ≤ g ∧ g < w.heap.size ∧ n ≤ cap := by
  have h2 := h.lt
  obtain ⟨_, ⟨rfl, h0⟩ | ⟨g, cap, cur, rfl, hg, hc, hcap, _⟩⟩ := h
  · omega
  · exact ⟨g, cap, rfl, hg, (h2 g rfl).2, hcap⟩
def bV (b : UInt8) : Value := .int .u8 (b.toNat : Int)
/-- The cell of an owned row of bytes. -/
theorem own_byte {w : World} {base e g cap : Nat} {l : List UInt8} (h : w.ownsRow base e 1 (.slice (some ⟨g, 0, none⟩) l.length cap) l.length (l.map bV)) (j : Nat) (hj : j < l.length) :
    w.cell? ⟨g, j, none⟩ = some (.int .u8 (l[j].toNat : Int)) := by
  rw [h.cellAt j (by omega)]
  simp [bV, hj]
end Go.Proofs.YtmfchcaidfloaaaDoor
namespace Go.Proofs.YtmfchcaidfloaaaDoor
open Go.ChangeShapes Go.WideShapes Go.ChangeAt Go.RowKit

theorem Tryd.infoI64 : (Tryd.prog.info? 2).map (fun i => (i.zero, i.size, i.bytes)) = some (some (.int .i64 0), 1, 8) := by kernel_rfl

/-- The block g holds the numbers zs from its head on. -/
def IntsAt (w : World) (g : Nat) (zs : List Int) : Prop := g < w.heap.size ∧ ∀ j, j < zs.length → w.cell? ⟨g, j, none⟩ = some (.int .i64 (zs.getD j 0))
theorem IntsAt.below {w w' : World} {g B : Nat} {zs : List Int} (h : IntsAt w g zs) (hb : Below B w w') (hB : w.heap.size ≤ B) : IntsAt w' g zs := by
  have hs := hb.size
  refine ⟨by have := h.1; omega, fun j hj => ?_⟩
  have h1 := h.1
  exact (hb.cell (p := ⟨g, j, none⟩) (by simp; omega)).trans (h.2 j hj)
theorem IntsAt.plain {w : World} {g : Nat} {zs : List Int} (h : IntsAt w g zs) : ∀ j, j < zs.length → w.cell? ⟨g, 0 + j, none⟩ = some (.int .i64 (zs.getD j 0)) := fun j hj => by rw [Nat.zero_add]; exact h.2 j hj

/-- The loop of a copy: the first k cells are written. -/
structure CpInv (zs : List Int) (k B g : Nat) (w wr : World) : Prop where
  own : ∃ X, wr.ownsRow B 2 1 (.slice (some ⟨g, 0, none⟩) zs.length zs.length) zs.length X ∧ ∀ j, j < k → X[j]? = some (.int .i64 (zs.getD j 0))
  below : Below B w wr
  lt : B ≤ g ∧ g < wr.heap.size
theorem cp_step {zs : List Int} {k B g : Nat} {w wr : World} (h : CpInv zs k B g w wr) (hk : k < zs.length) : CpInv zs (k + 1) B g w (wr.setCell ⟨g, k, none⟩ (.int .i64 (zs.getD k 0))) := by
  obtain ⟨⟨X, h1, h2⟩, h3, h4⟩ := h
  have hX : X.length = zs.length := by have := h1.1; simpa using this
  obtain ⟨s1, s2⟩ := h1.stored k (.int .i64 (zs.getD k 0))
  refine ⟨⟨_, s1, fun j hj => ?_⟩, h3.setCell h4.1 _, h4.1, by have := s2.size; omega⟩
  by_cases e : j = k
  · subst e; rw [List.getElem?_set_self (by omega)]
  · rw [List.getElem?_set_ne (by omega)]; exact h2 j (by omega)
theorem cp_free {zs : List Int} {k B g : Nat} {w wr : World} (h : CpInv zs k B g w wr) (j : Nat) : wr.frozen? ⟨g, j, none⟩ = false := by
  obtain ⟨⟨X, h1, _⟩, _, _⟩ := h
  exact h1.frozenAt j
theorem cp_cell {zs : List Int} {k B g : Nat} {w wr : World} (h : CpInv zs k B g w wr) (j : Nat) (hj : j < zs.length) : ∃ v, wr.cell? ⟨g, j, none⟩ = some v := by
  obtain ⟨⟨X, h1, _⟩, _, _⟩ := h
  have hX : X.length = zs.length := by have := h1.1; simpa using this
  exact ⟨X[j]'(by omega), by rw [h1.cellAt j (by omega)]; simp⟩
theorem cp_end {zs : List Int} {k B g : Nat} {w wr : World} (h : CpInv zs k B g w wr) (hk : zs.length ≤ k) : IntsAt wr g zs := by
  obtain ⟨⟨X, h1, h2⟩, _, h4⟩ := h
  exact ⟨h4.2, fun j hj => by rw [h1.cellAt j (by omega)]; exact h2 j (by omega)⟩

/-- A slice that came in reads as the numbers zs. -/
def View (w : World) (ao : Option Addr) (zs : List Int) : Prop := zs = [] ∨ ∃ b off, ao = some ⟨b, off, none⟩ ∧ b < w.heap.size ∧ ∀ j, j < zs.length → w.cell? ⟨b, off + j, none⟩ = some (.int .i64 (zs.getD j 0))
theorem View.below {w w' : World} {ao : Option Addr} {B : Nat} {zs : List Int} (h : View w ao zs) (hb : Below B w w') (hB : w.heap.size ≤ B) : View w' ao zs := by
  rcases h with h | ⟨b, off, rfl, h1, h2⟩
  · exact Or.inl h
  · have hs := hb.size
    exact Or.inr ⟨b, off, rfl, by omega, fun j hj => (hb.cell (p := ⟨b, off + j, none⟩) (by simp; omega)).trans (h2 j hj)⟩
end Go.Proofs.YtmfchcaidfloaaaDoor
namespace Go.Proofs.YtmfchcaidfloaaaDoor
open Go.ChangeShapes Go.WideShapes Go.ChangeAt Go.RowKit

theorem own_view {w : World} {base e n : Nat} {v : Value} {xs : List Value} (h : w.ownsRow base e 1 v n xs) : ∃ ao cap, v = .slice ao n cap ∧ (0 < n → ∃ g, ao = some ⟨g, 0, none⟩ ∧ base ≤ g ∧ g < w.heap.size) := by
  have h2 := h.lt
  obtain ⟨_, ⟨rfl, h0⟩ | ⟨g, cap, cur, rfl, hg, hc, hcap, _⟩⟩ := h
  · subst h0; exact ⟨none, 0, rfl, fun h => by omega⟩
  · exact ⟨some ⟨g, 0, none⟩, cap, rfl, fun _ => ⟨g, rfl, hg, (h2 g rfl).2⟩⟩
/-- The slice v of n places holds 1, 2 .. n. -/
def Marked (w : World) (base : Nat) (v : Value) (n : Nat) : Prop := ∃ X, w.ownsRow base 2 1 v n X ∧ ∀ t, t < n → X[t]? = some (.int .i64 (1 + (t : Int)))

structure MkInv (k n base g cap : Nat) (w wr : World) : Prop where
  own : ∃ X, wr.ownsRow base 2 1 (.slice (some ⟨g, 0, none⟩) n cap) n X ∧ ∀ t, t < k → X[t]? = some (.int .i64 (1 + (t : Int)))
  below : Below base w wr
  lt : base ≤ g
theorem mk_step {k n base g cap : Nat} {w wr : World} (h : MkInv k n base g cap w wr) (hk : k < n) : MkInv (k + 1) n base g cap w (wr.setCell ⟨g, k, none⟩ (.int .i64 (1 + (k : Int)))) := by
  obtain ⟨⟨X, h1, h2⟩, h3, h4⟩ := h
  have hX : X.length = n := by have := h1.1; simpa using this
  obtain ⟨s1, s2⟩ := h1.stored k (.int .i64 (1 + (k : Int)))
  refine ⟨⟨_, s1, fun j hj => ?_⟩, h3.setCell h4 _, h4⟩
  by_cases e : j = k
  · subst e; rw [List.getElem?_set_self (by omega)]
  · rw [List.getElem?_set_ne (by omega)]; exact h2 j (by omega)
theorem mk_free {k n base g cap : Nat} {w wr : World} (h : MkInv k n base g cap w wr) (j : Nat) : wr.frozen? ⟨g, j, none⟩ = false := by
  obtain ⟨⟨X, h1, _⟩, _, _⟩ := h
  exact h1.frozenAt j
theorem mk_cell {k n base g cap : Nat} {w wr : World} (h : MkInv k n base g cap w wr) (j : Nat) (hj : j < n) : ∃ v, wr.cell? ⟨g, j, none⟩ = some v := by
  obtain ⟨⟨X, h1, _⟩, _, _⟩ := h
  have hX : X.length = n := by have := h1.1; simpa using this
  exact ⟨X[j]'(by omega), by rw [h1.cellAt j (by omega)]; simp⟩

end Go.Proofs.YtmfchcaidfloaaaDoor
namespace Go.Proofs.YtmfchcaidfloaaaDoor

def revD (m : Nat) : List UInt8 := if h : m = 0 then [] else UInt8.ofNat (48 + m % 10) :: revD (m / 10)
  termination_by m
  decreasing_by omega

theorem revD_zero : revD 0 = [] := by rw [revD, dif_pos rfl]
theorem revD_pos (m : Nat) (h : m ≠ 0) : revD m = UInt8.ofNat (48 + m % 10) :: revD (m / 10) := by rw [revD, dif_neg h]
theorem revD_len : ∀ (k m : Nat), m < 10 ^ k → (revD m).length ≤ k
  | 0, m, h => by have : m = 0 := by simp at h; omega
                  subst this; rw [revD_zero]; simp
  | k + 1, m, h => by
    by_cases h0 : m = 0
    · subst h0; rw [revD_zero]; simp
    · rw [revD_pos m h0, List.length_cons]
      have := revD_len k (m / 10) (by rw [Nat.pow_succ] at h; omega)
      omega
theorem dec_rev (m : Nat) (h : m ≠ 0) : Lib.decDigits m = (revD m).reverse := by
  induction m using Nat.strongRecOn with
  | _ m ih =>
    by_cases h10 : m < 10
    · rw [Lib.decDigits_one h10, revD_pos m h, show m / 10 = 0 by omega, revD_zero, show m % 10 = m by omega]; rfl
    · rw [Lib.decDigits, dif_neg h10, revD_pos m h, List.reverse_cons, ih (m / 10) (by omega) (by omega)]
theorem itoa_zero : Lib.itoa 0 = [48] := by
  unfold Lib.itoa; rw [if_neg (by omega)]; exact Lib.decDigits_one (by omega)
theorem itoa_pos (m : Nat) (h : m ≠ 0) : Lib.itoa m = (revD m).reverse := by
  unfold Lib.itoa; rw [if_neg (by omega), Int.toNat_natCast, dec_rev m h]
theorem itoa_neg (m : Nat) (h : m ≠ 0) : Lib.itoa (-(m : Int)) = (revD m ++ [45]).reverse := by
  unfold Lib.itoa; rw [if_pos (by omega), Int.natAbs_neg, Int.natAbs_natCast, dec_rev m h]; simp
end Go.Proofs.YtmfchcaidfloaaaDoor
namespace Go.Proofs.YtmfchcaidfloaaaDoor
open Go.ChangeShapes Go.WideShapes Go.ChangeAt Go.RowKit

theorem Tryd.infoU8 : (Tryd.prog.info? 5).map (fun i => (i.zero, i.size, i.bytes)) = some (some (.int .u8 0), 1, 1) := by kernel_rfl

/-- Loop 1: D has been written, m is left. -/
structure DecInv (n m : Int) (D : List UInt8) (base : Nat) (v : Value) (w wr : World) : Prop where
  sgn : (0 ≤ n → 0 ≤ m) ∧ (n < 0 → m ≤ 0)
  split : D ++ revD m.natAbs = revD n.natAbs
  own : wr.ownsRow base 5 1 v D.length (D.map bV)
  below : Below base w wr
  le : base ≤ wr.heap.size

theorem DecInv.len {n m : Int} {D : List UInt8} {base : Nat} {v : Value} {w wr : World} (h : DecInv n m D base v w wr) (hn : n.natAbs < 10 ^ 20) : D.length ≤ 20 := by
  have h1 := revD_len 20 n.natAbs hn
  rw [← h.split, List.length_append] at h1
  omega

theorem byte_of (k : Nat) : Value.int .u8 (48 + ((k % 10 : Nat) : Int)) = bV (UInt8.ofNat (48 + k % 10)) := by
  unfold bV
  congr 1
  rw [UInt8.toNat_ofNat']
  omega
/-- One digit more. -/
theorem dec_step {n m m' c : Int} {D : List UInt8} {base : Nat} {v v' : Value} {w wr w1 : World} {o : Obj} (h : DecInv n m D base v w wr) (hm : m ≠ 0) (hm' : m'.natAbs = m.natAbs / 10) (hs : (0 ≤ m → 0 ≤ m') ∧ (m ≤ 0 → m' ≤ 0))
    (hc : c = 48 + ((m.natAbs % 10 : Nat) : Int)) (hown : w1.ownsRow base 5 1 v' (D.length + 1) (D.map bV ++ [.int .u8 c])) (hg : (wr.alloc o).grownBy w1 v.ownBlock) :
    DecInv n m' (D ++ [UInt8.ofNat (48 + m.natAbs % 10)]) base v' w w1 := by
  have hsz := hg.size
  refine ⟨⟨fun hn => hs.1 (h.sgn.1 hn), fun hn => hs.2 (h.sgn.2 hn)⟩, ?_, ?_, below_app h.below (Nat.le_refl _) h.le h.own hg, ?_⟩
  · rw [List.append_assoc, hm', List.singleton_append, ← revD_pos m.natAbs (by omega)]; exact h.split
  · subst hc
    rw [byte_of] at hown
    simpa using hown
  · have := h.le; simp at hsz; omega

/-- Loop 2: of the bytes E those behind B have been written, the last one first. -/
structure RevInv (E : List UInt8) (B : Int) (base base2 g cap : Nat) (o : Value) (w wr : World) : Prop where
  out : wr.ownsRow base2 5 1 o (E.length - (B + 1).toNat) ((E.drop (B + 1).toNat).reverse.map bV)
  src : wr.ownsRow base 5 1 (.slice (some ⟨g, 0, none⟩) E.length cap) E.length (E.map bV)
  below : Below base w wr
  le : base2 ≤ wr.heap.size
  lt : g < base2
  bs : base ≤ base2

theorem rev_start {E : List UInt8} {base g cap : Nat} {w wr : World} (h : wr.ownsRow base 5 1 (.slice (some ⟨g, 0, none⟩) E.length cap) E.length (E.map bV)) (hb : Below base w wr) (hle : base ≤ wr.heap.size) (hg : g < wr.heap.size) (Z : Nat) (hZ : wr.heap.size = Z) :
    RevInv E ((E.length : Int) - 1) base Z g cap (.slice (some ⟨wr.heap.size, 0, none⟩) 0 0) w (wr.alloc (.cells #[] 5)) := by
  have e : ((E.length : Int) - 1 + 1).toNat = E.length := by omega
  subst hZ
  refine ⟨?_, h.alloc _, hb.alloc hle _, by simp, hg, hle⟩
  rw [e, Nat.sub_self, List.drop_length]
  exact World.ownsRow_made _ _ _ (Nat.le_refl _) (by unfold maxLen; omega) rfl
theorem rev_step {E : List UInt8} {j base base2 g cap : Nat} {o o' : Value} {w wr w1 : World} {ob : Obj} (h : RevInv E (j : Int) base base2 g cap o w wr) (hj : j < E.length)
    (hown : w1.ownsRow base2 5 1 o' (E.length - ((j : Int) + 1).toNat + 1) ((E.drop ((j : Int) + 1).toNat).reverse.map bV ++ [.int .u8 (E[j].toNat : Int)])) (hg : (wr.alloc ob).grownBy w1 o.ownBlock) :
    RevInv E ((j : Int) - 1) base base2 g cap o' w w1 := by
  have hsz := hg.size
  have e1 : ((j : Int) + 1).toNat = j + 1 := by omega
  have e2 : ((j : Int) - 1 + 1).toNat = j := by omega
  have hl := h.le
  refine ⟨?_, (h.src.alloc ob).kept hg ?_, below_app h.below h.bs (Nat.le_trans h.bs h.le) h.out hg, by simp at hsz; omega, h.lt, h.bs⟩
  · rw [e1] at hown
    rw [e2, List.drop_eq_getElem_cons hj, List.reverse_cons, List.map_append, show E.length - j = E.length - (j + 1) + 1 by omega]
    exact hown
  · right
    intro he
    have := h.lt
    have h3 := (h.out.lt g he.symm).1
    omega
theorem dec_list {n : Int} {D : List UInt8} {base : Nat} {v : Value} {w wr : World} (h : DecInv n 0 D base v w wr) : D = revD n.natAbs := by
  have := h.split
  rw [Int.natAbs_zero, revD_zero, List.append_nil] at this
  exact this
theorem ret_bytes {a b : List UInt8} (h : a = b) : Ending.returned (.string ⟨a.toArray⟩) = .returned (.string ⟨b.toArray⟩) := by rw [h]
theorem revD_ne (m : Nat) (h : m ≠ 0) : 0 < (revD m).length := by rw [revD_pos m h]; simp
theorem rev_end {E : List UInt8} {base base2 g cap : Nat} {o : Value} {w wr : World} (h : RevInv E (-1) base base2 g cap o w wr) (hE : 0 < E.length) :
    ∃ g2 cap2, o = .slice (some ⟨g2, 0, none⟩) E.reverse.length cap2 ∧ (∀ j (hj : j < E.reverse.length), wr.cell? ((⟨g2, 0, none⟩ : Addr).add j) = some (.int .u8 (E.reverse[j].toNat : Int))) := by
  have ho : wr.ownsRow base2 5 1 o E.reverse.length (E.reverse.map bV) := by
    have := h.out
    simpa using this
  obtain ⟨g2, cap2, rfl, _, _, _⟩ := own_shape ho (by simpa using hE)
  refine ⟨g2, cap2, rfl, fun j hj => ?_⟩
  rw [add_plain, Nat.zero_add]
  exact own_byte ho j hj

set_option maxRecDepth 100000 in
set_option maxHeartbeats 1000000 in
theorem l01Dec_any (n : Int) (w : World) (h1 : -9223372036854775808 ≤ n) (h2 : n ≤ 9223372036854775807) :
    Calls Tryd.prog 94 #[.int .i64 n] w fun e w' => e = .returned (.string ⟨(Lib.itoa n).toArray⟩) ∧ Below w.heap.size w w' := by
  by_cases h0 : n = 0
  · subst h0
    rw [itoa_zero]
    go_enter Tryd.func94, Tryd.ntmps94
    go_wp2
    go_ret
    exact ⟨rfl, Below.refl _ _⟩
  have e0 : (n == 0) = false := by rw [beq_eq_false_iff_ne]; exact h0
  obtain ⟨i0, hi, hz0, hz1, hz2⟩ := info_parts Tryd.infoU8
  go_enter Tryd.func94, Tryd.ntmps94
  go_wp2
  go_loopw [3, 4] (fun v i wr => ∃ (m : Int) (D : List UInt8), i = .int .i64 m ∧ -9223372036854775808 ≤ m ∧ m ≤ 9223372036854775807 ∧ Hid (DecInv n m D w.heap.size v w wr)) (fun _ i _ => (intOf i).natAbs)
  case atStart => exact ⟨n, [], rfl, h1, h2, Lib.hid ⟨⟨fun h => h, fun h => by omega⟩, by simp, World.ownsRow_made _ _ _ (Nat.le_refl _) (by unfold maxLen; omega) rfl, (Below.refl _ _).alloc (Nat.le_refl _) _, by simp⟩⟩
  case round =>
    obtain ⟨m, D, rfl, hm1, hm2, hD⟩ := hrel
    have hlen := hD.out.len (by omega)
    have hle := hD.out.le
    by_cases hm : m = 0
    · subst hm
      have hDE := dec_list hD.out
      have hDl : 0 < D.length := by rw [hDE]; exact revD_ne _ (by omega)
      by_cases hn : n < 0
      · have HE : Hid (Lib.itoa n = (D ++ [45]).reverse) := Lib.hid (by
          obtain ⟨M, rfl⟩ : ∃ M : Nat, n = -(M : Int) := ⟨n.natAbs, by omega⟩
          rw [hDE, Int.natAbs_neg, Int.natAbs_natCast]; exact itoa_neg M (by omega))
        clear hDE
        go_wp2_with (at_builtin; refine wpList_app1 rfl _ _ 129 rfl w.heap.size 5 i0 (.int .u8 0) 1 Tryd.underlying129 hi hz0 hz1 hz2 rfl _ _ _ rfl hD.out.own _ rfl (by first | rfl | simp) rfl (by omega) (by omega) hle ?_)
        intro v' w1 hown' hgrow
        have hbw1 := Lib.hid (below_app hD.out.below (Nat.le_refl _) hle hD.out.own hgrow)
        have hle1 : w.heap.size ≤ w1.heap.size := by have := hgrow.size; simp at this; omega
        have hown1 : w1.ownsRow w.heap.size 5 1 v' (D ++ [45]).length ((D ++ [45]).map bV) := by simpa [bV] using hown'
        clear hown' hgrow
        obtain ⟨E, hE⟩ : ∃ E, E = D ++ [45] := ⟨_, rfl⟩
        have hEl : E.length ≤ 21 := by rw [hE]; simp; omega
        have hEl0 : 0 < E.length := by rw [hE]; simp
        rw [← hE] at hown1
        have HE2 := HE.out
        rw [← hE] at HE2
        clear HE hE
        have HE := Lib.hid HE2
        clear HE2
        obtain ⟨g, cap, rfl, hg1, hg2, hcap⟩ := own_shape hown1 hEl0
        obtain ⟨Z, hZ⟩ : ∃ Z, w1.heap.size = Z := ⟨_, rfl⟩
        have HR := Lib.hid (rev_start hown1 hbw1.out hle1 hg2 Z hZ)
        clear hZ
        clear hown1
        go_wp2
        go_loopw [6, 7] (fun o i wr => ∃ B : Int, -1 ≤ B ∧ B < (E.length : Int) ∧ i = .int .i64 B ∧ Hid (RevInv E B w.heap.size Z g cap o w wr)) (fun _ i _ => (intOf i + 1).toNat)
        case atStart => exact ⟨(E.length : Int) - 1, by omega, by omega, by first | rfl | go_num, HR⟩
        case round =>
          obtain ⟨B, hB1, hB2, rfl, hR⟩ := hrel
          by_cases hB : 0 ≤ B
          · obtain ⟨j, rfl⟩ : ∃ j : Nat, B = j := ⟨B.toNat, by omega⟩
            have hj : j < E.length := by omega
            have hcell := own_byte hR.out.src j hj
            have hle2 := hR.out.le
            generalize hc : (E[j].toNat : Int) = c at hcell
            have HC := Lib.hid hc
            clear hc
            have hro := hR.out.out
            generalize hX : ((E.drop ((j : Int) + 1).toNat).reverse.map bV) = X at hro
            generalize hL : E.length - ((j : Int) + 1).toNat = L at hro
            have hL2 : L + 1 ≤ 100 := by omega
            have HX := Lib.hid hX
            have HL := Lib.hid hL
            clear hX hL
            go_wp2_with (at_builtin; refine wpList_app1 rfl _ _ 129 rfl Z 5 i0 (.int .u8 0) 1 Tryd.underlying129 hi hz0 hz1 hz2 rfl _ _ _ rfl hro _ rfl (by first | rfl | simp) rfl (by omega) (by omega) hle2 ?_)
            intro v2 w2 hown2 hgrow2
            have hN := Lib.hid (rev_step hR.out hj (by rw [HX.out, HL.out, HC.out]; exact hown2) hgrow2)
            clear hown2 hgrow2
            go_wp2
            go_roundw
            case rel => exact ⟨_, by omega, by omega, rfl, hN⟩
            case measure => simp [intOf]
          · obtain rfl : B = -1 := by omega
            obtain ⟨g2, cap2, rfl, hcs⟩ := rev_end hR.out (by omega)
            have hcv := run_convert_bytes_back (P := Tryd.prog) wr 129 9 5 ⟨g2, 0, none⟩ cap2 E.reverse Tryd.underlying129 Tryd.underlying5 Tryd.underlying9 hcs
            rw [List.length_reverse] at hcv
            have hbw := Lib.hid hR.out.below
            clear hcs
            go_wp2
            go_ret
            exact ⟨ret_bytes HE.out.symm, hbw.out⟩

      · have HE : Hid (Lib.itoa n = D.reverse) := Lib.hid (by
          obtain ⟨M, rfl⟩ : ∃ M : Nat, n = (M : Int) := ⟨n.natAbs, by omega⟩
          rw [hDE, Int.natAbs_natCast]; exact itoa_pos M (by omega))
        clear hDE
        obtain ⟨g, cap, rfl, hg1, hg2, hcap⟩ := own_shape hD.out.own hDl
        obtain ⟨Z, hZ⟩ : ∃ Z, wr.heap.size = Z := ⟨_, rfl⟩
        have HR := Lib.hid (rev_start hD.out.own hD.out.below hle hg2 Z hZ)
        clear hZ
        go_wp2
        go_loopw [6, 7] (fun o i wr => ∃ B : Int, -1 ≤ B ∧ B < (D.length : Int) ∧ i = .int .i64 B ∧ Hid (RevInv D B w.heap.size Z g cap o w wr)) (fun _ i _ => (intOf i + 1).toNat)
        case atStart => exact ⟨(D.length : Int) - 1, by omega, by omega, by first | rfl | go_num, HR⟩
        case round =>
          obtain ⟨B, hB1, hB2, rfl, hR⟩ := hrel
          by_cases hB : 0 ≤ B
          · obtain ⟨j, rfl⟩ : ∃ j : Nat, B = j := ⟨B.toNat, by omega⟩
            have hj : j < D.length := by omega
            have hcell := own_byte hR.out.src j hj
            have hle2 := hR.out.le
            generalize hc : (D[j].toNat : Int) = c at hcell
            have HC := Lib.hid hc
            clear hc
            have hro := hR.out.out
            generalize hX : ((D.drop ((j : Int) + 1).toNat).reverse.map bV) = X at hro
            generalize hL : D.length - ((j : Int) + 1).toNat = L at hro
            have hL2 : L + 1 ≤ 100 := by omega
            have HX := Lib.hid hX
            have HL := Lib.hid hL
            clear hX hL
            go_wp2_with (at_builtin; refine wpList_app1 rfl _ _ 129 rfl Z 5 i0 (.int .u8 0) 1 Tryd.underlying129 hi hz0 hz1 hz2 rfl _ _ _ rfl hro _ rfl (by first | rfl | simp) rfl (by omega) (by omega) hle2 ?_)
            intro v2 w2 hown2 hgrow2
            have hN := Lib.hid (rev_step hR.out hj (by rw [HX.out, HL.out, HC.out]; exact hown2) hgrow2)
            clear hown2 hgrow2
            go_wp2
            go_roundw
            case rel => exact ⟨_, by omega, by omega, rfl, hN⟩
            case measure => simp [intOf]
          · obtain rfl : B = -1 := by omega
            obtain ⟨g2, cap2, rfl, hcs⟩ := rev_end hR.out (by omega)
            have hcv := run_convert_bytes_back (P := Tryd.prog) wr 129 9 5 ⟨g2, 0, none⟩ cap2 D.reverse Tryd.underlying129 Tryd.underlying5 Tryd.underlying9 hcs
            rw [List.length_reverse] at hcv
            have hbw := Lib.hid hR.out.below
            clear hcs
            go_wp2
            go_ret
            exact ⟨ret_bytes HE.out.symm, hbw.out⟩

    · have em : (m == 0) = false := by rw [beq_eq_false_iff_ne]; exact hm
      have em2 : (m != 0) = true := by simp [hm]
      by_cases hs : 0 ≤ m
      · obtain ⟨M, rfl⟩ : ∃ M : Nat, m = M := ⟨m.toNat, by omega⟩
        go_wp2_with (at_builtin; refine wpList_app1 rfl _ _ 129 rfl w.heap.size 5 i0 (.int .u8 0) 1 Tryd.underlying129 hi hz0 hz1 hz2 rfl _ _ _ rfl hD.out.own _ rfl (by first | rfl | simp) rfl (by omega) (by omega) hle ?_)
        intro v' w1 hown' hgrow
        have hN := Lib.hid (dec_step (m' := (M : Int) / 10) hD.out hm (by omega) (by omega) (by omega) hown' hgrow)
        clear hown' hgrow
        go_wp2
        go_roundw
        case rel => exact ⟨_, _, rfl, by omega, by omega, hN⟩
        case measure => simp [intOf]; omega
      · obtain ⟨M, rfl⟩ : ∃ M : Nat, m = -(M : Int) := ⟨m.natAbs, by omega⟩
        have et : (-(M : Int)).tmod 10 = -((M : Int) % 10) := by rw [Int.neg_tmod]; rfl
        have eq : (-(M : Int)).tdiv 10 = -((M : Int) / 10) := by rw [Int.neg_tdiv]; rfl
        by_cases h9 : (M : Int) % 10 = 0
        · go_wp2_with (at_builtin; refine wpList_app1 rfl _ _ 129 rfl w.heap.size 5 i0 (.int .u8 0) 1 Tryd.underlying129 hi hz0 hz1 hz2 rfl _ _ _ rfl hD.out.own _ rfl (by first | rfl | simp) rfl (by omega) (by omega) hle ?_)
          intro v' w1 hown' hgrow
          have hN := Lib.hid (dec_step (m' := -((M : Int) / 10)) hD.out hm (by omega) (by omega) (by omega) hown' hgrow)
          clear hown' hgrow
          go_wp2
          go_roundw
          case rel => exact ⟨_, _, rfl, by omega, by omega, hN⟩
          case measure => simp [intOf]; omega
        · go_wp2_with (at_builtin; refine wpList_app1 rfl _ _ 129 rfl w.heap.size 5 i0 (.int .u8 0) 1 Tryd.underlying129 hi hz0 hz1 hz2 rfl _ _ _ rfl hD.out.own _ rfl (by first | rfl | simp) rfl (by omega) (by omega) hle ?_)
          intro v' w1 hown' hgrow
          have hN := Lib.hid (dec_step (m' := -((M : Int) / 10)) hD.out hm (by omega) (by omega) (by omega) hown' hgrow)
          clear hown' hgrow
          go_wp2
          go_roundw
          case rel => exact ⟨_, _, rfl, by omega, by omega, hN⟩
          case measure => simp [intOf]; omega
end Go.Proofs.YtmfchcaidfloaaaDoor
namespace Go.Proofs.YtmfchcaidfloaaaDoor
open Go.ChangeShapes Go.WideShapes Go.ChangeAt Go.RowKit Go.Joins

/-- The table of the powers of ten, which strconv reads. -/
def TabOk (w : World) : Prop := Lib.TabIs Tryd.prog w "internal/strconv.uint64pow10" .u64 Lib.pow10Tab
theorem gTab : Tryd.prog.globalNamed "internal/strconv.uint64pow10" = some 7 := by kernel_rfl
theorem TabOk.below {w w' : World} {B : Nat} (h : TabOk w) (hb : Below B w w') (hB : w.heap.size ≤ B) : TabOk w' := tab_stays gTab h hb hB

theorem format_any (n : Int) (w : World) (h1 : -9223372036854775808 ≤ n) (h2 : n ≤ 9223372036854775807) (ht : TabOk w) :
    Calls Tryd.prog 97 #[.int .i64 n, .int .i64 10] w fun e w' => e = .returned (.string ⟨(Lib.itoa n).toArray⟩) ∧ Below w.heap.size w w' :=
  (Tryd.strconv_FormatInt_10 n h1 h2 w ht).mono fun _ _ ⟨he, k, os, hw⟩ => ⟨he, hw ▸ Lib.below_grow _ w (Nat.le_refl _) k os⟩
theorem decimal_impl (n : Int) (w : World) (h1 : -9223372036854775808 ≤ n) (h2 : n ≤ 9223372036854775807) (ht : TabOk w) :
    Calls Tryd.prog 59 #[.int .i64 n] w fun e w' => e = .returned (.string ⟨(Lib.itoa n).toArray⟩) ∧ Below w.heap.size w w' := by
  have HT := Lib.hid ht
  clear ht
  go_enter Tryd.func59, Tryd.ntmps59
  go_wp2_with ((with_reducible refine (format_any _ _ h1 h2 HT.out).mono ?_); rintro e w' ⟨rfl, hb⟩)
  go_ret
  exact ⟨rfl, by assumption⟩
end Go.Proofs.YtmfchcaidfloaaaDoor
