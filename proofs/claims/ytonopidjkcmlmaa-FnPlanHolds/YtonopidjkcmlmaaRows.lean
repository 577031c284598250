/-
  No cell of these rows narrows 'for every input' (looked for: loops, veiled, ifaces, maps, wideKeys, modest, calm, conditions, laid).
  DERIVED. THE GIVEN ROWS OF THIS SEAT. 4 by the template 'for every input the law returns true; each argument reads behind the call as it read before'; 0 by the template 'total and deterministic' (their statements: YtonopidjkcmlmaaTotals.lean).
  GIVEN WITH THE SEED: the statements are not yours to turn. If you find one false, say at which input.
  Laid BY PROGRAM, IN A SANDBOX (cutbox-rows.mjs): the forced cells as the released guide's own fill.sh prints them over the translation 2b15430f0e7fe434… (all of the seat's roots in one cut). By AI agents, Wed Nov 11 2026. No macro, syntax, notation, axiom, sorry.
-/
import Derived.Test.YtonopidjkcmlmaaChecked
import GoSem.Claim
import GoSem.ClaimJoined
import GoSem.ClaimMapViews
import Derived.JoinedTies
import Derived.KernelRfl
namespace Go.Proofs.Ytonopidjkcmlmaa
/- THE CELL 'sum', in the pinned program and in every row, IS THE sha256 OF THE DUMP (.gsa) THAT YtonopidjkcmlmaaProg.lean LOADS. Nothing in Lean hashes anything: it is a label: what it is worth is what the hold of that sum in a sandbox is worth. -/
noncomputable def Try.pinned : Pinned := { name := "ytonopidjkcmlmaa", sum := "2b15430f0e7fe434886ba2eb02bb8f61fb8b291fe8d6caad24e60a8fe96f0307", checked := Try.checked }
namespace Rows
def none {H : Type} : Left H := { results := [], args := [] }

/-- 'laws.FnPlanHolds': WHATEVER THE INPUT: true; the input reads as it did. -/
def fnPlanHoldsSpec : ChangeSpec := { name := "fnPlanHolds", fn := fun _ => fun
  | [d] => { results := [.lit (.bool true)], args := [d] }
  | _ => none }
def fnPlanHoldsRow : OpenClaim := { program := "ytonopidjkcmlmaa", sum := "2b15430f0e7fe434886ba2eb02bb8f61fb8b291fe8d6caad24e60a8fe96f0307", func := "loop.example/g00265/laws.FnPlanHolds", spec := "fnPlanHolds", unfollowed := true, recurses := true, apart := false }
def FnPlanHoldsSaid : Prop := fnPlanHoldsRow.holds Try.pinned (OpenSpec.ofChange fnPlanHoldsSpec)

/-- ITS FALSE NEIGHBOUR: 'it returns false'. Refute it at one input. -/
def fnPlanHoldsWrong : ChangeSpec := { name := "fnPlanHolds", fn := fun _ => fun
  | [d] => { results := [.lit (.bool false)], args := [d] }
  | _ => none }
def FnPlanHoldsWrongFalsely : Prop := fnPlanHoldsRow.holds Try.pinned (OpenSpec.ofChange fnPlanHoldsWrong)

/-- 'laws.FnPlanCost': WHATEVER THE INPUT: true; the input reads as it did. -/
def fnPlanCostSpec : ChangeSpec := { name := "fnPlanCost", fn := fun _ => fun
  | [d] => { results := [.lit (.bool true)], args := [d] }
  | _ => none }
def fnPlanCostRow : OpenClaim := { program := "ytonopidjkcmlmaa", sum := "2b15430f0e7fe434886ba2eb02bb8f61fb8b291fe8d6caad24e60a8fe96f0307", func := "loop.example/g00265/laws.FnPlanCost", spec := "fnPlanCost", unfollowed := true, recurses := true, apart := false }
def FnPlanCostSaid : Prop := fnPlanCostRow.holds Try.pinned (OpenSpec.ofChange fnPlanCostSpec)

/-- ITS FALSE NEIGHBOUR: 'it returns false'. Refute it at one input. -/
def fnPlanCostWrong : ChangeSpec := { name := "fnPlanCost", fn := fun _ => fun
  | [d] => { results := [.lit (.bool false)], args := [d] }
  | _ => none }
def FnPlanCostWrongFalsely : Prop := fnPlanCostRow.holds Try.pinned (OpenSpec.ofChange fnPlanCostWrong)

/-- 'laws.FnExactPlanCode': WHATEVER THE INPUT: true; the input reads as it did. -/
def fnExactPlanCodeSpec : ChangeSpec := { name := "fnExactPlanCode", fn := fun _ => fun
  | [d1, d2] => { results := [.lit (.bool true)], args := [d1, d2] }
  | _ => none }
def fnExactPlanCodeRow : OpenClaim := { program := "ytonopidjkcmlmaa", sum := "2b15430f0e7fe434886ba2eb02bb8f61fb8b291fe8d6caad24e60a8fe96f0307", func := "loop.example/g00265/laws.FnExactPlanCode", spec := "fnExactPlanCode", unfollowed := true, recurses := true, apart := false }
def FnExactPlanCodeSaid : Prop := fnExactPlanCodeRow.holds Try.pinned (OpenSpec.ofChange fnExactPlanCodeSpec)

/-- ITS FALSE NEIGHBOUR: 'it returns false'. Refute it at one input. -/
def fnExactPlanCodeWrong : ChangeSpec := { name := "fnExactPlanCode", fn := fun _ => fun
  | [d1, d2] => { results := [.lit (.bool false)], args := [d1, d2] }
  | _ => none }
def FnExactPlanCodeWrongFalsely : Prop := fnExactPlanCodeRow.holds Try.pinned (OpenSpec.ofChange fnExactPlanCodeWrong)

/-- 'laws.FnExactPlanCost': WHATEVER THE INPUT: true; the input reads as it did. -/
def fnExactPlanCostSpec : ChangeSpec := { name := "fnExactPlanCost", fn := fun _ => fun
  | [d1, d2] => { results := [.lit (.bool true)], args := [d1, d2] }
  | _ => none }
def fnExactPlanCostRow : OpenClaim := { program := "ytonopidjkcmlmaa", sum := "2b15430f0e7fe434886ba2eb02bb8f61fb8b291fe8d6caad24e60a8fe96f0307", func := "loop.example/g00265/laws.FnExactPlanCost", spec := "fnExactPlanCost", unfollowed := true, recurses := true, apart := false }
def FnExactPlanCostSaid : Prop := fnExactPlanCostRow.holds Try.pinned (OpenSpec.ofChange fnExactPlanCostSpec)

/-- ITS FALSE NEIGHBOUR: 'it returns false'. Refute it at one input. -/
def fnExactPlanCostWrong : ChangeSpec := { name := "fnExactPlanCost", fn := fun _ => fun
  | [d1, d2] => { results := [.lit (.bool false)], args := [d1, d2] }
  | _ => none }
def FnExactPlanCostWrongFalsely : Prop := fnExactPlanCostRow.holds Try.pinned (OpenSpec.ofChange fnExactPlanCostWrong)

/- THE SECOND FORM. 'bulk': how many values and letters a reading holds, each counted each time it is reached (what is shared counts as often as it is met; a slice's spare places count too). A statement '..UptoSaid' is the law's where the arguments, and the package variables that the reading takes, are together of bulk at most 1048576: NARROWER than '..Said'. Prove '..Said' where nothing that the law and all that it calls make is longer than what came in: it says more and counts as full. Else prove '..UptoSaid'. A law counts once. -/
mutual
def uptoBulk {H : Type} : DataW H → Nat
  | .lit (.string bytes) => bytes.length + 1
  | .lit _ => 1
  | .nil => 1
  | .ptr d => uptoBulk d + 1
  | .slice elems spare => uptoBulkAll elems + uptoBulkAll spare + 1
  | .agg parts => uptoBulkAll parts + 1
  | .iface _ d => uptoBulk d + 1
  | .map entries => uptoBulkEntries entries + 1
  | .held _ => 1
def uptoBulkAll {H : Type} : List (DataW H) → Nat
  | [] => 0
  | d :: r => uptoBulk d + uptoBulkAll r
def uptoBulkEntries {H : Type} : List (Lit × DataW H) → Nat
  | [] => 0
  | x :: r => uptoBulkEntry x + uptoBulkEntries r
def uptoBulkEntry {H : Type} : Lit × DataW H → Nat
  | (.string bytes, d) => bytes.length + uptoBulk d + 1
  | (_, d) => uptoBulk d + 1
 end
def uptoSmall : (H : Type) → List (DataW H) → Bool := fun _ ds => decide (uptoBulkAll ds ≤ 1048576)
def OpenSpec.upto (s : _root_.Go.ChangeSpec) : _root_.Go.OpenSpec := { _root_.Go.OpenSpec.ofChange s with cond := some uptoSmall }

/-- 'laws.FnPlanHolds', WHERE WHAT IT READS IS OF BULK AT MOST 1048576: true; the input reads as it did. -/
def fnPlanHoldsUptoRow : OpenClaim := { program := "ytonopidjkcmlmaa", sum := "2b15430f0e7fe434886ba2eb02bb8f61fb8b291fe8d6caad24e60a8fe96f0307", func := "loop.example/g00265/laws.FnPlanHolds", spec := "fnPlanHolds", unfollowed := true, recurses := true, apart := false, narrowed := true }
def FnPlanHoldsUptoSaid : Prop := fnPlanHoldsUptoRow.holds Try.pinned (OpenSpec.upto fnPlanHoldsSpec)

/-- 'laws.FnPlanCost', WHERE WHAT IT READS IS OF BULK AT MOST 1048576: true; the input reads as it did. -/
def fnPlanCostUptoRow : OpenClaim := { program := "ytonopidjkcmlmaa", sum := "2b15430f0e7fe434886ba2eb02bb8f61fb8b291fe8d6caad24e60a8fe96f0307", func := "loop.example/g00265/laws.FnPlanCost", spec := "fnPlanCost", unfollowed := true, recurses := true, apart := false, narrowed := true }
def FnPlanCostUptoSaid : Prop := fnPlanCostUptoRow.holds Try.pinned (OpenSpec.upto fnPlanCostSpec)

/-- 'laws.FnExactPlanCode', WHERE WHAT IT READS IS OF BULK AT MOST 1048576: true; the input reads as it did. -/
def fnExactPlanCodeUptoRow : OpenClaim := { program := "ytonopidjkcmlmaa", sum := "2b15430f0e7fe434886ba2eb02bb8f61fb8b291fe8d6caad24e60a8fe96f0307", func := "loop.example/g00265/laws.FnExactPlanCode", spec := "fnExactPlanCode", unfollowed := true, recurses := true, apart := false, narrowed := true }
def FnExactPlanCodeUptoSaid : Prop := fnExactPlanCodeUptoRow.holds Try.pinned (OpenSpec.upto fnExactPlanCodeSpec)

/-- 'laws.FnExactPlanCost', WHERE WHAT IT READS IS OF BULK AT MOST 1048576: true; the input reads as it did. -/
def fnExactPlanCostUptoRow : OpenClaim := { program := "ytonopidjkcmlmaa", sum := "2b15430f0e7fe434886ba2eb02bb8f61fb8b291fe8d6caad24e60a8fe96f0307", func := "loop.example/g00265/laws.FnExactPlanCost", spec := "fnExactPlanCost", unfollowed := true, recurses := true, apart := false, narrowed := true }
def FnExactPlanCostUptoSaid : Prop := fnExactPlanCostUptoRow.holds Try.pinned (OpenSpec.upto fnExactPlanCostSpec)

end Rows
end Go.Proofs.Ytonopidjkcmlmaa
