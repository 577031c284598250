/-
  No cell of these rows narrows 'for every input' (looked for: loops, veiled, ifaces, maps, wideKeys, modest, calm, conditions, laid).
  DERIVED. THE GIVEN ROWS OF THIS SEAT. 3 by the template 'for every input the law returns true; each argument reads behind the call as it read before'; 0 by the template 'total and deterministic' (their statements: YtaehhlkpbhmdfaaTotals.lean).
  GIVEN WITH THE SEED: the statements are not yours to turn. If you find one false, say at which input.
  Laid BY PROGRAM, IN A SANDBOX (cutbox-rows.mjs): the forced cells as the released guide's own fill.sh prints them over the translation 94cd986af68b295d… (all of the seat's roots in one cut). By AI agents, Wed Nov 11 2026. No macro, syntax, notation, axiom, sorry.
-/
import Derived.Test.YtaehhlkpbhmdfaaChecked
import GoSem.Claim
import GoSem.ClaimJoined
import GoSem.ClaimMapViews
import Derived.JoinedTies
import Derived.KernelRfl
namespace Go.Proofs.Ytaehhlkpbhmdfaa
/- THE CELL 'sum', in the pinned program and in every row, IS THE sha256 OF THE DUMP (.gsa) THAT YtaehhlkpbhmdfaaProg.lean LOADS. Nothing in Lean hashes anything: it is a label: what it is worth is what the hold of that sum in a sandbox is worth. -/
noncomputable def Try.pinned : Pinned := { name := "ytaehhlkpbhmdfaa", sum := "94cd986af68b295db1c466a70866ead414e368061a6e2371d0262458a6318c7d", checked := Try.checked }
namespace Rows
def none {H : Type} : Left H := { results := [], args := [] }

/-- 'laws.FnSpanTree': WHATEVER THE INPUT: true; the input reads as it did. -/
def fnSpanTreeSpec : ChangeSpec := { name := "fnSpanTree", fn := fun _ => fun
  | [d] => { results := [.lit (.bool true)], args := [d] }
  | _ => none }
def fnSpanTreeRow : OpenClaim := { program := "ytaehhlkpbhmdfaa", sum := "94cd986af68b295db1c466a70866ead414e368061a6e2371d0262458a6318c7d", func := "loop.example/g00265/laws.FnSpanTree", spec := "fnSpanTree", unfollowed := true, recurses := true, apart := false }
def FnSpanTreeSaid : Prop := fnSpanTreeRow.holds Try.pinned (OpenSpec.ofChange fnSpanTreeSpec)

/-- ITS FALSE NEIGHBOUR: 'it returns false'. Refute it at one input. -/
def fnSpanTreeWrong : ChangeSpec := { name := "fnSpanTree", fn := fun _ => fun
  | [d] => { results := [.lit (.bool false)], args := [d] }
  | _ => none }
def FnSpanTreeWrongFalsely : Prop := fnSpanTreeRow.holds Try.pinned (OpenSpec.ofChange fnSpanTreeWrong)

/-- 'laws.FnTreeBound': WHATEVER THE INPUT: true; the input reads as it did. -/
def fnTreeBoundSpec : ChangeSpec := { name := "fnTreeBound", fn := fun _ => fun
  | [d] => { results := [.lit (.bool true)], args := [d] }
  | _ => none }
def fnTreeBoundRow : OpenClaim := { program := "ytaehhlkpbhmdfaa", sum := "94cd986af68b295db1c466a70866ead414e368061a6e2371d0262458a6318c7d", func := "loop.example/g00265/laws.FnTreeBound", spec := "fnTreeBound", unfollowed := true, recurses := true, apart := false }
def FnTreeBoundSaid : Prop := fnTreeBoundRow.holds Try.pinned (OpenSpec.ofChange fnTreeBoundSpec)

/-- ITS FALSE NEIGHBOUR: 'it returns false'. Refute it at one input. -/
def fnTreeBoundWrong : ChangeSpec := { name := "fnTreeBound", fn := fun _ => fun
  | [d] => { results := [.lit (.bool false)], args := [d] }
  | _ => none }
def FnTreeBoundWrongFalsely : Prop := fnTreeBoundRow.holds Try.pinned (OpenSpec.ofChange fnTreeBoundWrong)

/-- 'laws.FnExactSpanTree': WHATEVER THE INPUT: true; the input reads as it did. -/
def fnExactSpanTreeSpec : ChangeSpec := { name := "fnExactSpanTree", fn := fun _ => fun
  | [d] => { results := [.lit (.bool true)], args := [d] }
  | _ => none }
def fnExactSpanTreeRow : OpenClaim := { program := "ytaehhlkpbhmdfaa", sum := "94cd986af68b295db1c466a70866ead414e368061a6e2371d0262458a6318c7d", func := "loop.example/g00265/laws.FnExactSpanTree", spec := "fnExactSpanTree", unfollowed := true, recurses := true, apart := false }
def FnExactSpanTreeSaid : Prop := fnExactSpanTreeRow.holds Try.pinned (OpenSpec.ofChange fnExactSpanTreeSpec)

/-- ITS FALSE NEIGHBOUR: 'it returns false'. Refute it at one input. -/
def fnExactSpanTreeWrong : ChangeSpec := { name := "fnExactSpanTree", fn := fun _ => fun
  | [d] => { results := [.lit (.bool false)], args := [d] }
  | _ => none }
def FnExactSpanTreeWrongFalsely : Prop := fnExactSpanTreeRow.holds Try.pinned (OpenSpec.ofChange fnExactSpanTreeWrong)

/- THE SECOND FORM. 'bulk': how many values and letters a reading holds, each counted each time it is reached (what is shared counts as often as it is met; a slice's spare places count too). A statement '..UptoSaid' is the law's where the arguments, and the package variables that the reading takes, are together of bulk at most 1048576: NARROWER than '..Said'. Prove '..Said' where nothing that the law and all that it calls make is longer than what came in: it says more and counts as full. Else prove '..UptoSaid'. A law counts once. -/
mutual
def uptoBulk {H : Type} : DataW H → Nat
  | .lit (.string bytes) => bytes.length + 1
  | .lit _ => 1
  | .nil => 1
  | .ptr d => uptoBulk d + 1
  | .slice elems spare => uptoBulkAll elems + uptoBulkAll spare + 1
  | .agg parts => uptoBulkAll parts + 1
  | .iface _ d => uptoBulk d + 1
  | .map entries => uptoBulkEntries entries + 1
  | .held _ => 1
def uptoBulkAll {H : Type} : List (DataW H) → Nat
  | [] => 0
  | d :: r => uptoBulk d + uptoBulkAll r
def uptoBulkEntries {H : Type} : List (Lit × DataW H) → Nat
  | [] => 0
  | x :: r => uptoBulkEntry x + uptoBulkEntries r
def uptoBulkEntry {H : Type} : Lit × DataW H → Nat
  | (.string bytes, d) => bytes.length + uptoBulk d + 1
  | (_, d) => uptoBulk d + 1
 end
def uptoSmall : (H : Type) → List (DataW H) → Bool := fun _ ds => decide (uptoBulkAll ds ≤ 1048576)
def OpenSpec.upto (s : _root_.Go.ChangeSpec) : _root_.Go.OpenSpec := { _root_.Go.OpenSpec.ofChange s with cond := some uptoSmall }

/-- 'laws.FnSpanTree', WHERE WHAT IT READS IS OF BULK AT MOST 1048576: true; the input reads as it did. -/
def fnSpanTreeUptoRow : OpenClaim := { program := "ytaehhlkpbhmdfaa", sum := "94cd986af68b295db1c466a70866ead414e368061a6e2371d0262458a6318c7d", func := "loop.example/g00265/laws.FnSpanTree", spec := "fnSpanTree", unfollowed := true, recurses := true, apart := false, narrowed := true }
def FnSpanTreeUptoSaid : Prop := fnSpanTreeUptoRow.holds Try.pinned (OpenSpec.upto fnSpanTreeSpec)

/-- 'laws.FnTreeBound', WHERE WHAT IT READS IS OF BULK AT MOST 1048576: true; the input reads as it did. -/
def fnTreeBoundUptoRow : OpenClaim := { program := "ytaehhlkpbhmdfaa", sum := "94cd986af68b295db1c466a70866ead414e368061a6e2371d0262458a6318c7d", func := "loop.example/g00265/laws.FnTreeBound", spec := "fnTreeBound", unfollowed := true, recurses := true, apart := false, narrowed := true }
def FnTreeBoundUptoSaid : Prop := fnTreeBoundUptoRow.holds Try.pinned (OpenSpec.upto fnTreeBoundSpec)

/-- 'laws.FnExactSpanTree', WHERE WHAT IT READS IS OF BULK AT MOST 1048576: true; the input reads as it did. -/
def fnExactSpanTreeUptoRow : OpenClaim := { program := "ytaehhlkpbhmdfaa", sum := "94cd986af68b295db1c466a70866ead414e368061a6e2371d0262458a6318c7d", func := "loop.example/g00265/laws.FnExactSpanTree", spec := "fnExactSpanTree", unfollowed := true, recurses := true, apart := false, narrowed := true }
def FnExactSpanTreeUptoSaid : Prop := fnExactSpanTreeUptoRow.holds Try.pinned (OpenSpec.upto fnExactSpanTreeSpec)

end Rows
end Go.Proofs.Ytaehhlkpbhmdfaa
