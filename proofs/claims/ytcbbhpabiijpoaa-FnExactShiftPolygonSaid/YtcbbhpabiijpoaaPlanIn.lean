/- A drawn region inside a fence, some blocks above an earlier world being known. -/
import Derived.Test.YtcbbhpabiijpoaaPlan
namespace Go.Proofs.Ytcbbhpabiijpoaa
open Go.ChangeShapes Go.WideShapes Go.ChangeAt Go.RowKit

theorem wpIn_region_plan_env {P : Program} {F : Fence} {n0 id : Nat} {a : Act} {w : World} {l : List Oper} {Q : Exit → Act → World → Prop} (hF : Grants F n0 P l.toArray) (m : Nat) (tl : List Nat) (w0 : World) (es : List Made) (specs : List Spec) (hm : P.follows .mixedOrders = true) (hsel : Region.noSelect l.toArray = true)
    (hlen : specs.length + m = l.toArray.size) (hk : ∀ x, x ∈ es → l.toArray.size ≤ x.key) (hone : ∀ x y, x ∈ es → y ∈ es → (x.key = y.key ∨ x.blk = y.blk) → x = y) (hb : Below w0.heap.size w0 w) (hes : ∀ x, x ∈ es → w0.heap.size ≤ x.blk ∧ x.blk < w.heap.size ∧ w.heap[x.blk]? = some x.obj)
    (h : PL P l.toArray .any w0 (wpAnyIn F n0 P .any l.toArray Q m) tl 0 l specs (fun x => x ∈ es) (Array.replicate l.toArray.size false) a) : (Code.region id l.toArray true).wpIn F n0 P Q a w := by
  refine wpIn_region_any hm ?_
  have h2 := Plan.sound (tl := tl) (w0 := w0) hF m hsel _ specs (fun x => x ∈ es) _ a { w with drawn := w.drawn + 1 } rfl ⟨fun x hx => Or.inr (hk x hx), hone, ⟨w.heap.size, fun x hx => (hes x hx).2.1⟩⟩ (Closed.none _ _ _) (h.out (by simp)) ⟨⟨hb.os, hb.tape, hb.output, hb.size, hb.block⟩, hes⟩
  rw [hlen] at h2
  exact h2
theorem plan_end {P : Program} {ops : Array Oper} {md : Region.Mode} {w0 : World} {F : Fence} {n0 : Nat} {Q : Exit → Act → World → Prop} {k : Nat} {env : Made → Prop} {listed : Array Bool} {a : Act} (fn : ∀ f, F.fn f) (hr : (Region.ready md ops listed).isEmpty = true) (h : ∀ w, Cl w0 env w → Q .normal a w) : PL P ops md w0 (wpAnyIn F n0 P md ops Q 0) [] k [] [] env listed a :=
  plan_tail fn (by rw [List.isEmpty_iff] at hr; rw [hr]; rfl) hr rfl h
end Go.Proofs.Ytcbbhpabiijpoaa
