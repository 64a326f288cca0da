/-
  No cell of these rows narrows 'for every input' (looked for: loops, veiled, ifaces, maps, wideKeys, modest, calm, conditions, laid).
  DERIVED. THE GIVEN ROWS OF THIS SEAT. 3 by the template 'for every input the law returns true; each argument reads behind the call as it read before'; 0 by the template 'total and deterministic' (their statements: YtmfchcaidfloaaaTotals.lean).
  GIVEN WITH THE SEED: the statements are not yours to turn. If you find one false, say at which input.
  Laid BY PROGRAM, IN A SANDBOX (cutbox-rows.mjs): the forced cells as the released guide's own fill.sh prints them over the translation cc32af32cc31dee1… (all of the seat's roots in one cut). By AI agents, Wed Nov 11 2026. No macro, syntax, notation, axiom, sorry.
-/
import Derived.Test.YtmfchcaidfloaaaChecked
import GoSem.Claim
import GoSem.ClaimJoined
import GoSem.ClaimMapViews
import Derived.JoinedTies
import Derived.KernelRfl
namespace Go.Proofs.Ytmfchcaidfloaaa
/- THE CELL 'sum', in the pinned program and in every row, IS THE sha256 OF THE DUMP (.gsa) THAT YtmfchcaidfloaaaProg.lean LOADS. Nothing in Lean hashes anything: it is a label: what it is worth is what the hold of that sum in a sandbox is worth. -/
noncomputable def Try.pinned : Pinned := { name := "ytmfchcaidfloaaa", sum := "cc32af32cc31dee13181f3e5b2f17249a9046c7c14494078484267429bc11396", checked := Try.checked }
namespace Rows
def none {H : Type} : Left H := { results := [], args := [] }

/-- 'laws.FnExactValidRules': WHATEVER THE INPUT: true; the input reads as it did. -/
def fnExactValidRulesSpec : ChangeSpec := { name := "fnExactValidRules", fn := fun _ => fun
  | [d] => { results := [.lit (.bool true)], args := [d] }
  | _ => none }
def fnExactValidRulesRow : OpenClaim := { program := "ytmfchcaidfloaaa", sum := "cc32af32cc31dee13181f3e5b2f17249a9046c7c14494078484267429bc11396", func := "loop.example/g00956/laws.FnExactValidRules", spec := "fnExactValidRules", apart := false }
def FnExactValidRulesSaid : Prop := fnExactValidRulesRow.holds Try.pinned (OpenSpec.ofChange fnExactValidRulesSpec)

/-- ITS FALSE NEIGHBOUR: 'it returns false'. Refute it at one input. -/
def fnExactValidRulesWrong : ChangeSpec := { name := "fnExactValidRules", fn := fun _ => fun
  | [d] => { results := [.lit (.bool false)], args := [d] }
  | _ => none }
def FnExactValidRulesWrongFalsely : Prop := fnExactValidRulesRow.holds Try.pinned (OpenSpec.ofChange fnExactValidRulesWrong)

/-- 'laws.FnExactValidPlacements': WHATEVER THE INPUT: true; the input reads as it did. -/
def fnExactValidPlacementsSpec : ChangeSpec := { name := "fnExactValidPlacements", fn := fun _ => fun
  | [d] => { results := [.lit (.bool true)], args := [d] }
  | _ => none }
def fnExactValidPlacementsRow : OpenClaim := { program := "ytmfchcaidfloaaa", sum := "cc32af32cc31dee13181f3e5b2f17249a9046c7c14494078484267429bc11396", func := "loop.example/g00956/laws.FnExactValidPlacements", spec := "fnExactValidPlacements", apart := false }
def FnExactValidPlacementsSaid : Prop := fnExactValidPlacementsRow.holds Try.pinned (OpenSpec.ofChange fnExactValidPlacementsSpec)

/-- ITS FALSE NEIGHBOUR: 'it returns false'. Refute it at one input. -/
def fnExactValidPlacementsWrong : ChangeSpec := { name := "fnExactValidPlacements", fn := fun _ => fun
  | [d] => { results := [.lit (.bool false)], args := [d] }
  | _ => none }
def FnExactValidPlacementsWrongFalsely : Prop := fnExactValidPlacementsRow.holds Try.pinned (OpenSpec.ofChange fnExactValidPlacementsWrong)

/-- 'laws.FnExactUsedLeaves': WHATEVER THE INPUT: true; the input reads as it did. -/
def fnExactUsedLeavesSpec : ChangeSpec := { name := "fnExactUsedLeaves", fn := fun _ => fun
  | [d] => { results := [.lit (.bool true)], args := [d] }
  | _ => none }
def fnExactUsedLeavesRow : OpenClaim := { program := "ytmfchcaidfloaaa", sum := "cc32af32cc31dee13181f3e5b2f17249a9046c7c14494078484267429bc11396", func := "loop.example/g00956/laws.FnExactUsedLeaves", spec := "fnExactUsedLeaves", recurses := true, apart := false }
def FnExactUsedLeavesSaid : Prop := fnExactUsedLeavesRow.holds Try.pinned (OpenSpec.ofChange fnExactUsedLeavesSpec)

/-- ITS FALSE NEIGHBOUR: 'it returns false'. Refute it at one input. -/
def fnExactUsedLeavesWrong : ChangeSpec := { name := "fnExactUsedLeaves", fn := fun _ => fun
  | [d] => { results := [.lit (.bool false)], args := [d] }
  | _ => none }
def FnExactUsedLeavesWrongFalsely : Prop := fnExactUsedLeavesRow.holds Try.pinned (OpenSpec.ofChange fnExactUsedLeavesWrong)

/- THE SECOND FORM. 'bulk': how many values and letters a reading holds, each counted each time it is reached (what is shared counts as often as it is met; a slice's spare places count too). A statement '..UptoSaid' is the law's where the arguments, and the package variables that the reading takes, are together of bulk at most 1048576: NARROWER than '..Said'. Prove '..Said' where nothing that the law and all that it calls make is longer than what came in: it says more and counts as full. Else prove '..UptoSaid'. A law counts once. -/
mutual
def uptoBulk {H : Type} : DataW H → Nat
  | .lit (.string bytes) => bytes.length + 1
  | .lit _ => 1
  | .nil => 1
  | .ptr d => uptoBulk d + 1
  | .slice elems spare => uptoBulkAll elems + uptoBulkAll spare + 1
  | .agg parts => uptoBulkAll parts + 1
  | .iface _ d => uptoBulk d + 1
  | .map entries => uptoBulkEntries entries + 1
  | .held _ => 1
def uptoBulkAll {H : Type} : List (DataW H) → Nat
  | [] => 0
  | d :: r => uptoBulk d + uptoBulkAll r
def uptoBulkEntries {H : Type} : List (Lit × DataW H) → Nat
  | [] => 0
  | x :: r => uptoBulkEntry x + uptoBulkEntries r
def uptoBulkEntry {H : Type} : Lit × DataW H → Nat
  | (.string bytes, d) => bytes.length + uptoBulk d + 1
  | (_, d) => uptoBulk d + 1
 end
def uptoSmall : (H : Type) → List (DataW H) → Bool := fun _ ds => decide (uptoBulkAll ds ≤ 1048576)
def OpenSpec.upto (s : _root_.Go.ChangeSpec) : _root_.Go.OpenSpec := { _root_.Go.OpenSpec.ofChange s with cond := some uptoSmall }

/-- 'laws.FnExactValidRules', WHERE WHAT IT READS IS OF BULK AT MOST 1048576: true; the input reads as it did. -/
def fnExactValidRulesUptoRow : OpenClaim := { program := "ytmfchcaidfloaaa", sum := "cc32af32cc31dee13181f3e5b2f17249a9046c7c14494078484267429bc11396", func := "loop.example/g00956/laws.FnExactValidRules", spec := "fnExactValidRules", apart := false, narrowed := true }
def FnExactValidRulesUptoSaid : Prop := fnExactValidRulesUptoRow.holds Try.pinned (OpenSpec.upto fnExactValidRulesSpec)

/-- 'laws.FnExactValidPlacements', WHERE WHAT IT READS IS OF BULK AT MOST 1048576: true; the input reads as it did. -/
def fnExactValidPlacementsUptoRow : OpenClaim := { program := "ytmfchcaidfloaaa", sum := "cc32af32cc31dee13181f3e5b2f17249a9046c7c14494078484267429bc11396", func := "loop.example/g00956/laws.FnExactValidPlacements", spec := "fnExactValidPlacements", apart := false, narrowed := true }
def FnExactValidPlacementsUptoSaid : Prop := fnExactValidPlacementsUptoRow.holds Try.pinned (OpenSpec.upto fnExactValidPlacementsSpec)

/-- 'laws.FnExactUsedLeaves', WHERE WHAT IT READS IS OF BULK AT MOST 1048576: true; the input reads as it did. -/
def fnExactUsedLeavesUptoRow : OpenClaim := { program := "ytmfchcaidfloaaa", sum := "cc32af32cc31dee13181f3e5b2f17249a9046c7c14494078484267429bc11396", func := "loop.example/g00956/laws.FnExactUsedLeaves", spec := "fnExactUsedLeaves", recurses := true, apart := false, narrowed := true }
def FnExactUsedLeavesUptoSaid : Prop := fnExactUsedLeavesUptoRow.holds Try.pinned (OpenSpec.upto fnExactUsedLeavesSpec)

end Rows
end Go.Proofs.Ytmfchcaidfloaaa
