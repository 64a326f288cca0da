/- The edges of a polygon, of impl: an iterator that hands over one segment after another. -/
import Derived.Test.YtjhmpmaademdcaaPolyImpl
import Derived.RangeFuncBox
import Derived.RangeFuncLeaves
import Derived.RangeFuncCalls
import Derived.RangeFuncNested
import Derived.Shelf.Abstract
import Derived.WalkKit
import Derived.TacticsInMore
import Derived.LoopNIn
import Derived.LoopIn
namespace Go.Proofs.Ytjhmpmaademdcaa
attribute [local go_sem] Oper.semAt_some
open Go.Shelf Go.ChangeShapes Go.WideShapes Go.ChangeAt Go.RowKit
set_option linter.unusedVariables false

/-- The edge with a number, as a value. -/
def segV (zs : List P2) (k : Nat) : Value := .agg #[.int .i64 (pt zs k).1, .int .i64 (pt zs k).2, .int .i64 (pt zs (k + 1)).1, .int .i64 (pt zs (k + 1)).2]
def EdgesPost (v : Value) (w : World) (e : Ending) (w' : World) : Prop := ∃ B, e = .returned (.func (.func 165) #[] #[.pointer (some ⟨B, 0, none⟩)]) ∧ MadeAt w w' B (.cells #[v] 81 (0, 0))
theorem edges_any (ao : Option Addr) (len cap : Nat) (w : World) : Calls Try.prog 111 #[.slice ao len cap] w (EdgesPost (.slice ao len cap) w) := by
  go_enter Try.func111, Try.ntmps111
  go_wp2
  go_ret
  exact ⟨w.heap.size, rfl, madeAt_alloc _ _⟩
theorem grown_none {w w' : World} (h : Below w.heap.size w w') : w.grownBy w' none := ⟨h.os, h.tape, h.output, h.size, fun k hk _ => h.block k hk⟩
theorem range_snoc (k : Nat) : List.range (k + 1) = List.range k ++ [k] := by simp [List.range_succ]
theorem below_low {B : Nat} {w w' : World} (h : Below w.heap.size w w') (hB : B ≤ w.heap.size) : Below B w w' := h.mono hB

/-- The two blocks that the iterator reads, its variable and the points, are as they were. -/
structure Keep2 (b B : Nat) (W W' : World) : Prop where
  size : W.heap.size ≤ W'.heap.size
  pts : W'.heap[b]? = W.heap[b]?
  var : W'.heap[B]? = W.heap[B]?
theorem Keep2.refl (b B : Nat) (W : World) : Keep2 b B W W := ⟨Nat.le_refl _, rfl, rfl⟩
theorem Keep2.trans {b B : Nat} {W W1 W2 : World} (h : Keep2 b B W W1) (k : Keep2 b B W1 W2) : Keep2 b B W W2 := ⟨Nat.le_trans h.size k.size, k.pts.trans h.pts, k.var.trans h.var⟩
theorem Keep2.of_below {n0 b B : Nat} {W W1 : World} (h : Below n0 W W1) (hb : b < n0) (hB : B < n0) : Keep2 b B W W1 := ⟨h.size, h.block _ hb, h.block _ hB⟩
theorem Keep2.putObj {b B : Nat} {w : World} (hb : b < w.heap.size) (hB : B < w.heap.size) (W : World) (l : Nat) (o' : Obj) (hl : w.heap.size ≤ l) : Keep2 b B W (W.putObj l o') :=
  ⟨by simp [World.putObj], World.putObj_heap_other (by omega), World.putObj_heap_other (by omega)⟩
theorem Keep2.setCell {b B : Nat} {W : World} {p : Addr} (hb : p.block ≠ b) (hB : p.block ≠ B) (v : Value) : Keep2 b B W (W.setCell p v) :=
  ⟨by simp [World.setCell], Below.heap_setCell _ _ _ _ (by omega), Below.heap_setCell _ _ _ _ (by omega)⟩
theorem PtsAt.keep {b B : Nat} {W W' : World} {zs : List P2} (h : PtsAt W b zs) (hk : Keep2 b B W W') : PtsAt W' b zs :=
  ⟨Nat.lt_of_lt_of_le h.1 hk.size, fun j hj => ⟨(World.cell?_of_block (w := W) (a := ⟨b, j * 2, none⟩) hk.pts).trans (h.2 j hj).1, (World.cell?_of_block (w := W) (a := ⟨b, j * 2 + 1, none⟩) hk.pts).trans (h.2 j hj).2⟩⟩

theorem abides_mono {β : Type} {B B2 : Nat} {J : β → World → Prop} (h : AbidesFrom B J) (hB : B ≤ B2) : AbidesFrom B2 J := fun s W W' row hs hg hr => h s W W' row hs hg (fun r e => ⟨Nat.le_trans hB (hr r e).1, (hr r e).2⟩)
set_option maxRecDepth 100000 in
set_option maxHeartbeats 4000000 in
theorem edges1_in (n l Bs b len cap : Nat) (zs : List P2) (hz : len = zs.length) (h1 : 1 ≤ len) (hl : len ≤ 1000) (J Jx : List Nat → World → Prop)
    (hY : ∀ pre x W, J pre W → pre.length < len → YieldAt Fence.wide (n - 1) Try.prog l #[segV zs x] W fun e W' => (e = .returned (.bool true) ∧ J (pre ++ [x]) W' ∧ Keep2 b Bs W W') ∨ (e = .returned (.bool false) ∧ Jx (pre ++ [x]) W'))
    (W : World) (hBW : Bs < W.heap.size) (hJ : AbidesFrom W.heap.size J) (hBs : W.cell? ⟨Bs, 0, none⟩ = some (.slice (some ⟨b, 0, none⟩) len cap)) (hp : PtsAt W b zs) (h0 : J [] W) :
    CallsIn Fence.wide n Try.prog 165 #[.func (.yield l) #[] #[], .pointer (some ⟨Bs, 0, none⟩)] W fun e W' => (∃ v, e = .returned v) ∧
      ((∃ xs, xs = List.range len ∧ J xs W') ∨ (∃ pre, (∃ k, k ≤ len ∧ pre = List.range k) ∧ Jx pre W')) := by
  have HZ := Lib.hid hz
  have HP := Lib.hid hp
  have HBs := Lib.hid hBs
  clear hz hp hBs
  refine callsIn_of_wp Try.func165 rfl trivial ?_ rfl
  simp only [Try.ntmps165, List.size_toArray, List.length_cons, List.length_nil, Nat.reduceAdd, Nat.reduceSub, Array.replicate_succ, Array.replicate_zero, List.push_toArray, List.append_toArray, List.nil_append, List.cons_append]
  have hBs := HBs.out
  gi_wp2
  gi_loopw [7] (fun i wr => ∃ k : Nat, k ≤ len ∧ i = .int .i64 k ∧ Hid (J (List.range k) wr) ∧ Hid (Keep2 b Bs W wr)) (fun i _ => len - (intOf i).toNat)
  case atStart => exact ⟨0, Nat.zero_le _, rfl, Lib.hid h0, Lib.hid (Keep2.refl _ _ _)⟩
  case round =>
    clear hBs
    obtain ⟨k, hk, rfl, hJs, hnx⟩ := hrel
    by_cases hlt : k < len
    · have hkz : k < zs.length := by have := HZ.out; omega
      have hs := hnx.out.size
      have HPP := Lib.hid (HP.out.keep hnx.out)
      have hbs := (World.cell?_of_block (w := W) (a := ⟨Bs, 0, none⟩) hnx.out.var).trans HBs.out
      have hbw : b < wr.heap.size := HPP.out.1
      have hBw : Bs < wr.heap.size := by omega
      obtain ⟨x, y, e1, c1, c2⟩ := HPP.out.pt hkz
      rw [← pt_lt hkz] at e1
      have E1 := Lib.hid e1
      clear e1
      have ek : IntKind.i64.wrap ((k : Int) + 1) = (k : Int) + 1 := IntWalk.i64_in _ (by omega)
      gi_wp2
      refine wpIn_region_plan (grants_any _ _ _) 2 [7, 8] [.val 0 [] (.func (.yield l) #[] #[]), .val 1 [] (.agg #[.int .i64 x, .int .i64 y]), .val 2 [] (.slice (some ⟨b, 0, none⟩) len cap), .val 3 [] (.int .i64 k), .val 4 [] (.int .i64 ((k : Int) + 1)), .val 5 [] (.agg #[.int .i64 (pt zs (k + 1)).1, .int .i64 (pt zs (k + 1)).2]), .val 6 [] (.agg #[.int .i64 x, .int .i64 y, .int .i64 (pt zs (k + 1)).1, .int .i64 (pt zs (k + 1)).2])] (by kernel_rfl) (by kernel_rfl) rfl ?_
      refine plan_val (by kernel_rfl) (by kernel_rfl) (by kernel_rfl) (by go_simp) (fun w1 hw1 => ?_) ?_
      · obtain ⟨hc, hf⟩ := bcell hw1; clear hw1; go_simp; (try with_reducible rfl)
      (try simp only [Act.put, List.setIfInBounds_toArray, List.set_cons_zero, List.set_cons_succ])
      refine plan_val (by kernel_rfl) (by kernel_rfl) (by kernel_rfl) (by go_simp) (fun w1 hw1 => ?_) ?_
      · obtain ⟨hc, hf⟩ := bcell hw1; clear hw1; go_simp; (try with_reducible rfl)
      (try simp only [Act.put, List.setIfInBounds_toArray, List.set_cons_zero, List.set_cons_succ])
      refine plan_val (by kernel_rfl) (by kernel_rfl) (by kernel_rfl) (by go_simp) (fun w1 hw1 => ?_) ?_
      · obtain ⟨hc, hf⟩ := bcell hw1; clear hw1; go_simp; (try with_reducible rfl)
      (try simp only [Act.put, List.setIfInBounds_toArray, List.set_cons_zero, List.set_cons_succ])
      refine plan_val (by kernel_rfl) (by kernel_rfl) (by kernel_rfl) (by go_simp) (fun w1 hw1 => ?_) ?_
      · obtain ⟨hc, hf⟩ := bcell hw1; clear hw1; go_simp; (try with_reducible rfl)
      (try simp only [Act.put, List.setIfInBounds_toArray, List.set_cons_zero, List.set_cons_succ])
      refine plan_val (by kernel_rfl) (by kernel_rfl) (by kernel_rfl) (by go_simp) (fun w1 hw1 => ?_) ?_
      · obtain ⟨hc, hf⟩ := bcell hw1; clear hw1; go_simp; (try with_reducible rfl)
      (try simp only [Act.put, List.setIfInBounds_toArray, List.set_cons_zero, List.set_cons_succ])
      refine plan_call [] 166 #[.slice (some ⟨b, 0, none⟩) len cap, .int .i64 ((k : Int) + 1)] (by kernel_rfl) (by kernel_rfl) (by kernel_rfl) (by kernel_rfl) (by go_simp) (fun w1 hw1 => ?_) (fun w1 hC => ?_) ?_
      · clear hw1; go_simp; (try with_reducible rfl)
      · exact corner_any b len cap (k + 1) zs _ HZ.out (by omega) (by omega) (by omega) (HPP.out.below (bseq (one_alloc _) hC.1) HPP.out.1)
      (try simp only [Act.put, List.setIfInBounds_toArray, List.set_cons_zero, List.set_cons_succ])
      refine plan_val (by kernel_rfl) (by kernel_rfl) (by kernel_rfl) (by go_simp) (fun w1 hw1 => ?_) ?_
      · obtain ⟨hc, hf⟩ := bcell hw1; clear hw1; go_simp; (try with_reducible rfl)
      (try simp only [Act.put, List.setIfInBounds_toArray, List.set_cons_zero, List.set_cons_succ])
      refine plan_tail (fun _ => trivial) (by kernel_rfl) (by kernel_rfl) rfl (fun w2 hC => ?_)
      have HB2 := Lib.hid hC.1
      have HBW := Lib.hid (bseq (one_alloc _) HB2.out)
      clear hC
      have hJ2 : J (List.range k) w2 := abides_mono hJ (by omega) _ _ _ none hJs.out (grown_none HBW.out) (fun r e => by cases e)
      obtain ⟨fn, tmps, assign, body, hy, hR⟩ := hY _ k w2 hJ2 (by simpa using hlt)
      unfold segV at hy
      rw [E1.out] at hy
      have HR := Lib.hid hR
      clear hR
      gi_wp2
      refine ⟨fun h => (by cases h), HR.out.mono ?_⟩
      rintro e W3 (⟨rfl, hJ3, hk3⟩ | ⟨rfl, hJx3⟩)
      · have HX := Lib.hid (hnx.out.trans ((Keep2.of_below HBW.out hbw hBw).trans hk3))
        have HJ3 := Lib.hid (range_snoc k ▸ hJ3)
        clear hJ3 hk3 hy
        gi_wp2
        go_roundw
        case rel => exact ⟨k + 1, by omega, by go_num, HJ3, HX⟩
        case measure => simp [intOf]; omega
      · have HJ3 := Lib.hid (range_snoc k ▸ hJx3)
        clear hJx3 hy
        gi_wp2
        refine bodyPost_ret (results_none rfl _ _ _) rfl ?_
        exact ⟨⟨_, rfl⟩, .inr ⟨_, ⟨k + 1, by omega, rfl⟩, HJ3.out⟩⟩
    · obtain rfl : k = len := by omega
      gi_wp2
      go_end0
      exact ⟨⟨_, rfl⟩, .inl ⟨_, rfl, hJs.out⟩⟩
/-- The iterator that edges hands back: the segments from point 0, 1, .. on; it reads the points behind each round, so the rounds must leave what lies below n0. -/
theorem edges_seq (n Bs b len cap : Nat) (zs : List P2) (w : World) (hz : len = zs.length) (h1 : 1 ≤ len) (hl : len ≤ 1000) (hB : Bs < w.heap.size) (hBs : w.cell? ⟨Bs, 0, none⟩ = some (.slice (some ⟨b, 0, none⟩) len cap)) (hp : PtsAt w b zs) :
    SeqStopsK Fence.wide n Try.prog 165 #[.pointer (some ⟨Bs, 0, none⟩)] (fun k => #[segV zs k]) (Keep2 b Bs) (fun xs => xs = List.range len) (fun pre => ∃ k, k ≤ len ∧ pre = List.range k) len w := fun l J Jx W hW hJ _ hY h0 =>
  edges1_in n l Bs b len cap zs hz h1 hl J Jx hY W (Nat.lt_of_lt_of_le hB hW.size) hJ ((hW.cell (p := ⟨Bs, 0, none⟩) hB).trans hBs) (hp.below hW hp.1) h0
/-- A loop over the edges of a polygon. I: what holds between two rounds; Ix: what holds where a round has left; Ax: what holds behind the assignment of the loop's variable. -/
theorem wp_edges {g : Operand} {t : Tmp} {assign body : Code} {Q : Exit → Act → World → Prop} {a : Act} {w : World} (Bs b len cap : Nat) (zs : List P2) (hz : len = zs.length) (h1 : 1 ≤ len) (hl : len ≤ 1000)
    (hg : a.eval g = .func (.func 165) #[] #[.pointer (some ⟨Bs, 0, none⟩)]) (hB : Bs < w.heap.size) (hBs : w.cell? ⟨Bs, 0, none⟩ = some (.slice (some ⟨b, 0, none⟩) len cap)) (hp : PtsAt w b zs)
    (I : List Nat → World → Prop) (Ix : Code → List Nat → World → Prop) (hI : OwnFrom w.heap.size I) (hIx : ∀ c, OwnFrom w.heap.size (Ix c)) (h0 : I [] w) (Ax : Nat → Act → World → Prop) (hAx : ∀ x a', OwnFrom w.heap.size (fun (_ : Unit) W => Ax x a' W))
    (hassign : ∀ (l : Nat) (pre : List Nat) (x : Nat) (W : World) (K : Act → World → Prop), w.heap.size ≤ W.heap.size → I pre W → (∀ a' W', KeepsFrom w.heap.size W W' → Keep2 b Bs W W' → I pre W' → Ax x a' W' → K a' W') →
      assign.wpIn (Fence.wide.inRound l) 0 Try.prog (Exit.then K (fun _ _ _ => False)) { tmps := a.tmps.setIfInBounds t (segV zs x), defers := [] } W)
    (hbody : ∀ (l : Nat) (pre : List Nat) (x : Nat) (a' : Act) (W : World), w.heap.size ≤ W.heap.size → I pre W → Ax x a' W → pre.length < len → body.wpIn (Fence.wide.inRound l) 0 Try.prog (ownPostG w.heap.size (Keep2 b Bs) I Ix (pre ++ [x]) W) a' W)
    (hdone : ∀ (D : Nat) (W : World), w.heap.size ≤ D → I (List.range len) W → W.heap[D]? = some (.deferred (some [])) → Q .normal { a with defers := { target := .collected D, args := #[] } :: a.defers } W)
    (hstop : ∀ (D : Nat) (c : Code) (k : Nat) (W : World), w.heap.size ≤ D → k ≤ len → Ix c (List.range k) W → W.heap[D]? = some (.deferred (some [])) → c.wpIn Fence.wide 2 Try.prog Q { a with defers := { target := .collected D, args := #[] } :: a.defers } W) :
    (Code.rangeFunc g #[t] assign body).wpIn Fence.wide 2 Try.prog Q a w := by
  refine wpIn_rangeFunc_ownH rfl (by omega) (gf := 165) (lb := #[.pointer (some ⟨Bs, 0, none⟩)]) hg trivial (enters_of Try.func165 (by kernel_rfl) rfl) (edges_seq _ Bs b len cap zs w hz h1 hl hB hBs hp) (fun h k => h.trans k)
    (fun W l o o' hl _ _ _ => Keep2.putObj hp.1 hB W l o' hl) (Below.refl _ _) (fun _ => rfl) (fun pre W => w.heap.size ≤ W.heap.size ∧ I pre W) (fun c pre W => w.heap.size ≤ W.heap.size ∧ Ix c pre W) ?_ ?_ ⟨Nat.le_refl _, h0⟩ Ax hAx ?_ ?_ ?_ ?_
  · exact fun s X Y row h hg hr => ⟨Nat.le_trans h.1 hg.size, hI s X Y row h.2 hg hr⟩
  · exact fun c s X Y row h hg hr => ⟨Nat.le_trans h.1 hg.size, hIx c s X Y row h.2 hg hr⟩
  · intro l pre x W K hs hK
    have e : (#[t].zip #[segV zs x]).foldl (fun (t : Array Value) (x : Tmp × Value) => t.setIfInBounds x.1 x.2) a.tmps = a.tmps.setIfInBounds t (segV zs x) := by simp
    show Code.wpIn (Fence.wide.inRound l) 0 _ _ _ { tmps := (#[t].zip #[segV zs x]).foldl (fun (t : Array Value) (x : Tmp × Value) => t.setIfInBounds x.1 x.2) a.tmps, defers := [] } W
    rw [e]
    exact hassign l pre x W K hs.1 hs.2 (fun a' W' k1 k2 hi hx => hK a' W' k1 k2 ⟨Nat.le_trans hs.1 k1.size, hi⟩ hx)
  · intro l pre x a' W _ _ hs hx hlen
    refine Code.wpIn_mono ?_ (hbody l pre x a' W hs.1 hs.2 hx hlen)
    intro e a1 W1 h
    cases e with
    | normal => exact ⟨h.1, h.2.1, Nat.le_trans hs.1 h.1.size, h.2.2⟩
    | ret => exact ⟨h.1, Nat.le_trans hs.1 h.1.size, h.2⟩
    | exit id => exact ⟨h.1, Nat.le_trans hs.1 h.1.size, h.2⟩
    | goto t => exact ⟨h.1, Nat.le_trans hs.1 h.1.size, h.2⟩
    | panic c => exact h
    | outgrown => exact h
  · rintro D xs W hD rfl hs hd
    exact hdone D W hD hs.2 hd
  · rintro D c pre W hD ⟨k, hk, rfl⟩ hs hd
    exact hstop D c k W hD hk hs.2 hd
end Go.Proofs.Ytjhmpmaademdcaa
