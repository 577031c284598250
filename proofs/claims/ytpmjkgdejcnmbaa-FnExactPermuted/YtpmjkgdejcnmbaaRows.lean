/-
  No cell of these rows narrows 'for every input' (looked for: loops, veiled, ifaces, maps, wideKeys, modest, calm, conditions, laid).
  DERIVED. THE GIVEN ROWS OF THIS SEAT. 6 by the template 'for every input the law returns true; each argument reads behind the call as it read before'; 0 by the template 'total and deterministic' (their statements: YtpmjkgdejcnmbaaTotals.lean).
  GIVEN WITH THE SEED: the statements are not yours to turn. If you find one false, say at which input.
  Laid BY PROGRAM, IN A SANDBOX (cutbox-rows.mjs): the forced cells as the released guide's own fill.sh prints them over the translation b9b885e3d0e0bc91… (all of the seat's roots in one cut). By AI agents, Wed Nov 11 2026. No macro, syntax, notation, axiom, sorry.
-/
import Derived.Test.YtpmjkgdejcnmbaaChecked
import GoSem.Claim
import GoSem.ClaimJoined
import GoSem.ClaimMapViews
import Derived.JoinedTies
import Derived.KernelRfl
namespace Go.Proofs.Ytpmjkgdejcnmbaa
/- THE CELL 'sum', in the pinned program and in every row, IS THE sha256 OF THE DUMP (.gsa) THAT YtpmjkgdejcnmbaaProg.lean LOADS. Nothing in Lean hashes anything: it is a label: what it is worth is what the hold of that sum in a sandbox is worth. -/
noncomputable def Try.pinned : Pinned := { name := "ytpmjkgdejcnmbaa", sum := "b9b885e3d0e0bc91420f3a9af069ff9a3a8506e82f2ef0d55bddd1efc26fc6f0", checked := Try.checked }
namespace Rows
def none {H : Type} : Left H := { results := [], args := [] }

/-- 'laws.FnExactCount': WHATEVER THE INPUT: true; the input reads as it did. -/
def fnExactCountSpec : ChangeSpec := { name := "fnExactCount", fn := fun _ => fun
  | [d] => { results := [.lit (.bool true)], args := [d] }
  | _ => none }
def fnExactCountRow : OpenClaim := { program := "ytpmjkgdejcnmbaa", sum := "b9b885e3d0e0bc91420f3a9af069ff9a3a8506e82f2ef0d55bddd1efc26fc6f0", func := "loop.example/g00265/laws.FnExactCount", spec := "fnExactCount", apart := false }
def FnExactCountSaid : Prop := fnExactCountRow.holds Try.pinned (OpenSpec.ofChange fnExactCountSpec)

/-- ITS FALSE NEIGHBOUR: 'it returns false'. Refute it at one input. -/
def fnExactCountWrong : ChangeSpec := { name := "fnExactCount", fn := fun _ => fun
  | [d] => { results := [.lit (.bool false)], args := [d] }
  | _ => none }
def FnExactCountWrongFalsely : Prop := fnExactCountRow.holds Try.pinned (OpenSpec.ofChange fnExactCountWrong)

/-- 'laws.FnExactPermuted': WHATEVER THE INPUT: true; the input reads as it did. -/
def fnExactPermutedSpec : ChangeSpec := { name := "fnExactPermuted", fn := fun _ => fun
  | [d1, d2] => { results := [.lit (.bool true)], args := [d1, d2] }
  | _ => none }
def fnExactPermutedRow : OpenClaim := { program := "ytpmjkgdejcnmbaa", sum := "b9b885e3d0e0bc91420f3a9af069ff9a3a8506e82f2ef0d55bddd1efc26fc6f0", func := "loop.example/g00265/laws.FnExactPermuted", spec := "fnExactPermuted", unfollowed := true, recurses := true, apart := false }
def FnExactPermutedSaid : Prop := fnExactPermutedRow.holds Try.pinned (OpenSpec.ofChange fnExactPermutedSpec)

/-- ITS FALSE NEIGHBOUR: 'it returns false'. Refute it at one input. -/
def fnExactPermutedWrong : ChangeSpec := { name := "fnExactPermuted", fn := fun _ => fun
  | [d1, d2] => { results := [.lit (.bool false)], args := [d1, d2] }
  | _ => none }
def FnExactPermutedWrongFalsely : Prop := fnExactPermutedRow.holds Try.pinned (OpenSpec.ofChange fnExactPermutedWrong)

/-- 'laws.FnExactAssignCost': WHATEVER THE INPUT: true; the input reads as it did. -/
def fnExactAssignCostSpec : ChangeSpec := { name := "fnExactAssignCost", fn := fun _ => fun
  | [d1, d2, d3] => { results := [.lit (.bool true)], args := [d1, d2, d3] }
  | _ => none }
def fnExactAssignCostRow : OpenClaim := { program := "ytpmjkgdejcnmbaa", sum := "b9b885e3d0e0bc91420f3a9af069ff9a3a8506e82f2ef0d55bddd1efc26fc6f0", func := "loop.example/g00265/laws.FnExactAssignCost", spec := "fnExactAssignCost", apart := false }
def FnExactAssignCostSaid : Prop := fnExactAssignCostRow.holds Try.pinned (OpenSpec.ofChange fnExactAssignCostSpec)

/-- ITS FALSE NEIGHBOUR: 'it returns false'. Refute it at one input. -/
def fnExactAssignCostWrong : ChangeSpec := { name := "fnExactAssignCost", fn := fun _ => fun
  | [d1, d2, d3] => { results := [.lit (.bool false)], args := [d1, d2, d3] }
  | _ => none }
def FnExactAssignCostWrongFalsely : Prop := fnExactAssignCostRow.holds Try.pinned (OpenSpec.ofChange fnExactAssignCostWrong)

/-- 'laws.FnExactProves': WHATEVER THE INPUT: true; the input reads as it did. -/
def fnExactProvesSpec : ChangeSpec := { name := "fnExactProves", fn := fun _ => fun
  | [d1, d2, d3, d4] => { results := [.lit (.bool true)], args := [d1, d2, d3, d4] }
  | _ => none }
def fnExactProvesRow : OpenClaim := { program := "ytpmjkgdejcnmbaa", sum := "b9b885e3d0e0bc91420f3a9af069ff9a3a8506e82f2ef0d55bddd1efc26fc6f0", func := "loop.example/g00265/laws.FnExactProves", spec := "fnExactProves", apart := false }
def FnExactProvesSaid : Prop := fnExactProvesRow.holds Try.pinned (OpenSpec.ofChange fnExactProvesSpec)

/-- ITS FALSE NEIGHBOUR: 'it returns false'. Refute it at one input. -/
def fnExactProvesWrong : ChangeSpec := { name := "fnExactProves", fn := fun _ => fun
  | [d1, d2, d3, d4] => { results := [.lit (.bool false)], args := [d1, d2, d3, d4] }
  | _ => none }
def FnExactProvesWrongFalsely : Prop := fnExactProvesRow.holds Try.pinned (OpenSpec.ofChange fnExactProvesWrong)

/-- 'laws.FnExactTreeTime': WHATEVER THE INPUT: true; the input reads as it did. -/
def fnExactTreeTimeSpec : ChangeSpec := { name := "fnExactTreeTime", fn := fun _ => fun
  | [d] => { results := [.lit (.bool true)], args := [d] }
  | _ => none }
def fnExactTreeTimeRow : OpenClaim := { program := "ytpmjkgdejcnmbaa", sum := "b9b885e3d0e0bc91420f3a9af069ff9a3a8506e82f2ef0d55bddd1efc26fc6f0", func := "loop.example/g00265/laws.FnExactTreeTime", spec := "fnExactTreeTime", apart := false }
def FnExactTreeTimeSaid : Prop := fnExactTreeTimeRow.holds Try.pinned (OpenSpec.ofChange fnExactTreeTimeSpec)

/-- ITS FALSE NEIGHBOUR: 'it returns false'. Refute it at one input. -/
def fnExactTreeTimeWrong : ChangeSpec := { name := "fnExactTreeTime", fn := fun _ => fun
  | [d] => { results := [.lit (.bool false)], args := [d] }
  | _ => none }
def FnExactTreeTimeWrongFalsely : Prop := fnExactTreeTimeRow.holds Try.pinned (OpenSpec.ofChange fnExactTreeTimeWrong)

/-- 'laws.FnExactSpans': WHATEVER THE INPUT: true; the input reads as it did. -/
def fnExactSpansSpec : ChangeSpec := { name := "fnExactSpans", fn := fun _ => fun
  | [d1, d2] => { results := [.lit (.bool true)], args := [d1, d2] }
  | _ => none }
def fnExactSpansRow : OpenClaim := { program := "ytpmjkgdejcnmbaa", sum := "b9b885e3d0e0bc91420f3a9af069ff9a3a8506e82f2ef0d55bddd1efc26fc6f0", func := "loop.example/g00265/laws.FnExactSpans", spec := "fnExactSpans", apart := false }
def FnExactSpansSaid : Prop := fnExactSpansRow.holds Try.pinned (OpenSpec.ofChange fnExactSpansSpec)

/-- ITS FALSE NEIGHBOUR: 'it returns false'. Refute it at one input. -/
def fnExactSpansWrong : ChangeSpec := { name := "fnExactSpans", fn := fun _ => fun
  | [d1, d2] => { results := [.lit (.bool false)], args := [d1, d2] }
  | _ => none }
def FnExactSpansWrongFalsely : Prop := fnExactSpansRow.holds Try.pinned (OpenSpec.ofChange fnExactSpansWrong)

/- THE SECOND FORM. 'bulk': how many values and letters a reading holds, each counted each time it is reached (what is shared counts as often as it is met; a slice's spare places count too). A statement '..UptoSaid' is the law's where the arguments, and the package variables that the reading takes, are together of bulk at most 1048576: NARROWER than '..Said'. Prove '..Said' where nothing that the law and all that it calls make is longer than what came in: it says more and counts as full. Else prove '..UptoSaid'. A law counts once. -/
mutual
def uptoBulk {H : Type} : DataW H → Nat
  | .lit (.string bytes) => bytes.length + 1
  | .lit _ => 1
  | .nil => 1
  | .ptr d => uptoBulk d + 1
  | .slice elems spare => uptoBulkAll elems + uptoBulkAll spare + 1
  | .agg parts => uptoBulkAll parts + 1
  | .iface _ d => uptoBulk d + 1
  | .map entries => uptoBulkEntries entries + 1
  | .held _ => 1
def uptoBulkAll {H : Type} : List (DataW H) → Nat
  | [] => 0
  | d :: r => uptoBulk d + uptoBulkAll r
def uptoBulkEntries {H : Type} : List (Lit × DataW H) → Nat
  | [] => 0
  | x :: r => uptoBulkEntry x + uptoBulkEntries r
def uptoBulkEntry {H : Type} : Lit × DataW H → Nat
  | (.string bytes, d) => bytes.length + uptoBulk d + 1
  | (_, d) => uptoBulk d + 1
 end
def uptoSmall : (H : Type) → List (DataW H) → Bool := fun _ ds => decide (uptoBulkAll ds ≤ 1048576)
def OpenSpec.upto (s : _root_.Go.ChangeSpec) : _root_.Go.OpenSpec := { _root_.Go.OpenSpec.ofChange s with cond := some uptoSmall }

/-- 'laws.FnExactCount', WHERE WHAT IT READS IS OF BULK AT MOST 1048576: true; the input reads as it did. -/
def fnExactCountUptoRow : OpenClaim := { program := "ytpmjkgdejcnmbaa", sum := "b9b885e3d0e0bc91420f3a9af069ff9a3a8506e82f2ef0d55bddd1efc26fc6f0", func := "loop.example/g00265/laws.FnExactCount", spec := "fnExactCount", apart := false, narrowed := true }
def FnExactCountUptoSaid : Prop := fnExactCountUptoRow.holds Try.pinned (OpenSpec.upto fnExactCountSpec)

/-- 'laws.FnExactPermuted', WHERE WHAT IT READS IS OF BULK AT MOST 1048576: true; the input reads as it did. -/
def fnExactPermutedUptoRow : OpenClaim := { program := "ytpmjkgdejcnmbaa", sum := "b9b885e3d0e0bc91420f3a9af069ff9a3a8506e82f2ef0d55bddd1efc26fc6f0", func := "loop.example/g00265/laws.FnExactPermuted", spec := "fnExactPermuted", unfollowed := true, recurses := true, apart := false, narrowed := true }
def FnExactPermutedUptoSaid : Prop := fnExactPermutedUptoRow.holds Try.pinned (OpenSpec.upto fnExactPermutedSpec)

/-- 'laws.FnExactAssignCost', WHERE WHAT IT READS IS OF BULK AT MOST 1048576: true; the input reads as it did. -/
def fnExactAssignCostUptoRow : OpenClaim := { program := "ytpmjkgdejcnmbaa", sum := "b9b885e3d0e0bc91420f3a9af069ff9a3a8506e82f2ef0d55bddd1efc26fc6f0", func := "loop.example/g00265/laws.FnExactAssignCost", spec := "fnExactAssignCost", apart := false, narrowed := true }
def FnExactAssignCostUptoSaid : Prop := fnExactAssignCostUptoRow.holds Try.pinned (OpenSpec.upto fnExactAssignCostSpec)

/-- 'laws.FnExactProves', WHERE WHAT IT READS IS OF BULK AT MOST 1048576: true; the input reads as it did. -/
def fnExactProvesUptoRow : OpenClaim := { program := "ytpmjkgdejcnmbaa", sum := "b9b885e3d0e0bc91420f3a9af069ff9a3a8506e82f2ef0d55bddd1efc26fc6f0", func := "loop.example/g00265/laws.FnExactProves", spec := "fnExactProves", apart := false, narrowed := true }
def FnExactProvesUptoSaid : Prop := fnExactProvesUptoRow.holds Try.pinned (OpenSpec.upto fnExactProvesSpec)

/-- 'laws.FnExactTreeTime', WHERE WHAT IT READS IS OF BULK AT MOST 1048576: true; the input reads as it did. -/
def fnExactTreeTimeUptoRow : OpenClaim := { program := "ytpmjkgdejcnmbaa", sum := "b9b885e3d0e0bc91420f3a9af069ff9a3a8506e82f2ef0d55bddd1efc26fc6f0", func := "loop.example/g00265/laws.FnExactTreeTime", spec := "fnExactTreeTime", apart := false, narrowed := true }
def FnExactTreeTimeUptoSaid : Prop := fnExactTreeTimeUptoRow.holds Try.pinned (OpenSpec.upto fnExactTreeTimeSpec)

/-- 'laws.FnExactSpans', WHERE WHAT IT READS IS OF BULK AT MOST 1048576: true; the input reads as it did. -/
def fnExactSpansUptoRow : OpenClaim := { program := "ytpmjkgdejcnmbaa", sum := "b9b885e3d0e0bc91420f3a9af069ff9a3a8506e82f2ef0d55bddd1efc26fc6f0", func := "loop.example/g00265/laws.FnExactSpans", spec := "fnExactSpans", apart := false, narrowed := true }
def FnExactSpansUptoSaid : Prop := fnExactSpansUptoRow.holds Try.pinned (OpenSpec.upto fnExactSpansSpec)

end Rows
end Go.Proofs.Ytpmjkgdejcnmbaa
