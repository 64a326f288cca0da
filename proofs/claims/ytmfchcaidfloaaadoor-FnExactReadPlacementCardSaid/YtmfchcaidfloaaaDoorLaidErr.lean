/- What a listed variable of an interface type gives: its cell holds an interface value. -/
import Derived.Test.YtmfchcaidfloaaaDoorNumber
import Derived.Lib.LaidU8
import Derived.MakeChecks
import Derived.LaidSub
namespace Go.Proofs.YtmfchcaidfloaaaDoor
open Go.ChangeShapes Go.WideShapes Go.ChangeAt Go.RowKit

theorem iface_of_trod {P : Program} {W : World} {t : TypeId} {ms : Array (String × TypeId)} {fuel : Nat} {cs : List Value} {nm : String} {d : DataW Unit} {p : List MemPlace} (hi : P.underlying t = some (.interface ms))
    (hd : DataW.trod (fun _ => ()) P W 0 (fun _ => true) false fuel t cs = some (.iface nm d, p)) : ∃ te pe, cs = [.iface te pe] := by
  cases fuel with
  | zero => simp [DataW.trod] at hd
  | succ fuel =>
    rw [DataW.trod.eq_def] at hd
    simp only [hi] at hd
    split at hd <;> first | exact ⟨_, _, rfl⟩ | (simp at hd; done) | contradiction | (simp_all; done)
theorem err_of {W : World} {n nm : String} {d : DataW Unit} {g : Nat} {t : TypeId} {ms : Array (String × TypeId)} {L : List (String × DataW Unit)} (h : laidMet Tryd.prog L W) (hm : (n, .iface nm d) ∈ L)
    (hg : Tryd.prog.globalNamed n = some g) (ht : (Tryd.prog.globals[g]?).map (·.type) = some t) (hi : Tryd.prog.underlying t = some (.interface ms)) : ErrAt g W := by
  obtain ⟨g', t', cs, fuel, p, hg', ht', hv, hd⟩ := Lib.laidMet.reads h hm
  obtain rfl := Option.some.inj (hg.symm.trans hg')
  obtain rfl := Option.some.inj (ht.symm.trans ht')
  obtain ⟨te, pe, hc⟩ := iface_of_trod hi hd
  have hcell := World.var?_cell hg hv 0
  have : cs[0]? = some (.iface te pe) := by
    have := congrArg (·[0]?) hc
    simpa using this
  rw [this] at hcell
  refine ⟨?_, te, pe, hcell⟩
  rcases Nat.lt_or_ge g W.heap.size with h' | h'
  · exact h'
  · unfold World.var? at hv
    simp [hg, Array.getElem?_eq_none h'] at hv
end Go.Proofs.YtmfchcaidfloaaaDoor
