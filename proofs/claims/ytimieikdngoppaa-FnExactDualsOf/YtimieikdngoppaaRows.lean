/-
  No cell of these rows narrows 'for every input' (looked for: loops, veiled, ifaces, maps, wideKeys, modest, calm, conditions, laid).
  DERIVED. THE GIVEN ROWS OF THIS SEAT. 3 by the template 'for every input the law returns true; each argument reads behind the call as it read before'; 0 by the template 'total and deterministic' (their statements: YtimieikdngoppaaTotals.lean).
  GIVEN WITH THE SEED: the statements are not yours to turn. If you find one false, say at which input.
  Laid BY PROGRAM, IN A SANDBOX (cutbox-rows.mjs): the forced cells as the released guide's own fill.sh prints them over the translation 2e49d5a8aec58144… (all of the seat's roots in one cut). By AI agents, Wed Nov 11 2026. No macro, syntax, notation, axiom, sorry.
-/
import Derived.Test.YtimieikdngoppaaChecked
import GoSem.Claim
import GoSem.ClaimJoined
import GoSem.ClaimMapViews
import Derived.JoinedTies
import Derived.KernelRfl
namespace Go.Proofs.Ytimieikdngoppaa
/- THE CELL 'sum', in the pinned program and in every row, IS THE sha256 OF THE DUMP (.gsa) THAT YtimieikdngoppaaProg.lean LOADS. Nothing in Lean hashes anything: it is a label: what it is worth is what the hold of that sum in a sandbox is worth. -/
noncomputable def Try.pinned : Pinned := { name := "ytimieikdngoppaa", sum := "2e49d5a8aec58144c099440f44051c67bd9a5ccc0bdb649d805988be0942fddb", checked := Try.checked }
namespace Rows
def none {H : Type} : Left H := { results := [], args := [] }

/-- 'laws.FnExactDualsOf': WHATEVER THE INPUT: true; the input reads as it did. -/
def fnExactDualsOfSpec : ChangeSpec := { name := "fnExactDualsOf", fn := fun _ => fun
  | [d1, d2] => { results := [.lit (.bool true)], args := [d1, d2] }
  | _ => none }
def fnExactDualsOfRow : OpenClaim := { program := "ytimieikdngoppaa", sum := "2e49d5a8aec58144c099440f44051c67bd9a5ccc0bdb649d805988be0942fddb", func := "loop.example/g00265/laws.FnExactDualsOf", spec := "fnExactDualsOf", unfollowed := true, recurses := true, apart := false }
def FnExactDualsOfSaid : Prop := fnExactDualsOfRow.holds Try.pinned (OpenSpec.ofChange fnExactDualsOfSpec)

/-- ITS FALSE NEIGHBOUR: 'it returns false'. Refute it at one input. -/
def fnExactDualsOfWrong : ChangeSpec := { name := "fnExactDualsOf", fn := fun _ => fun
  | [d1, d2] => { results := [.lit (.bool false)], args := [d1, d2] }
  | _ => none }
def FnExactDualsOfWrongFalsely : Prop := fnExactDualsOfRow.holds Try.pinned (OpenSpec.ofChange fnExactDualsOfWrong)

/-- 'laws.FnExactNextRand': WHATEVER THE INPUT: true; the input reads as it did. -/
def fnExactNextRandSpec : ChangeSpec := { name := "fnExactNextRand", fn := fun _ => fun
  | [d] => { results := [.lit (.bool true)], args := [d] }
  | _ => none }
def fnExactNextRandRow : OpenClaim := { program := "ytimieikdngoppaa", sum := "2e49d5a8aec58144c099440f44051c67bd9a5ccc0bdb649d805988be0942fddb", func := "loop.example/g00265/laws.FnExactNextRand", spec := "fnExactNextRand", apart := false }
def FnExactNextRandSaid : Prop := fnExactNextRandRow.holds Try.pinned (OpenSpec.ofChange fnExactNextRandSpec)

/-- ITS FALSE NEIGHBOUR: 'it returns false'. Refute it at one input. -/
def fnExactNextRandWrong : ChangeSpec := { name := "fnExactNextRand", fn := fun _ => fun
  | [d] => { results := [.lit (.bool false)], args := [d] }
  | _ => none }
def FnExactNextRandWrongFalsely : Prop := fnExactNextRandRow.holds Try.pinned (OpenSpec.ofChange fnExactNextRandWrong)

/-- 'laws.FnExactPicked': WHATEVER THE INPUT: true; the input reads as it did. -/
def fnExactPickedSpec : ChangeSpec := { name := "fnExactPicked", fn := fun _ => fun
  | [d1, d2, d3] => { results := [.lit (.bool true)], args := [d1, d2, d3] }
  | _ => none }
def fnExactPickedRow : OpenClaim := { program := "ytimieikdngoppaa", sum := "2e49d5a8aec58144c099440f44051c67bd9a5ccc0bdb649d805988be0942fddb", func := "loop.example/g00265/laws.FnExactPicked", spec := "fnExactPicked", apart := false }
def FnExactPickedSaid : Prop := fnExactPickedRow.holds Try.pinned (OpenSpec.ofChange fnExactPickedSpec)

/-- ITS FALSE NEIGHBOUR: 'it returns false'. Refute it at one input. -/
def fnExactPickedWrong : ChangeSpec := { name := "fnExactPicked", fn := fun _ => fun
  | [d1, d2, d3] => { results := [.lit (.bool false)], args := [d1, d2, d3] }
  | _ => none }
def FnExactPickedWrongFalsely : Prop := fnExactPickedRow.holds Try.pinned (OpenSpec.ofChange fnExactPickedWrong)

/- THE SECOND FORM. 'bulk': how many values and letters a reading holds, each counted each time it is reached (what is shared counts as often as it is met; a slice's spare places count too). A statement '..UptoSaid' is the law's where the arguments, and the package variables that the reading takes, are together of bulk at most 1048576: NARROWER than '..Said'. Prove '..Said' where nothing that the law and all that it calls make is longer than what came in: it says more and counts as full. Else prove '..UptoSaid'. A law counts once. -/
mutual
def uptoBulk {H : Type} : DataW H → Nat
  | .lit (.string bytes) => bytes.length + 1
  | .lit _ => 1
  | .nil => 1
  | .ptr d => uptoBulk d + 1
  | .slice elems spare => uptoBulkAll elems + uptoBulkAll spare + 1
  | .agg parts => uptoBulkAll parts + 1
  | .iface _ d => uptoBulk d + 1
  | .map entries => uptoBulkEntries entries + 1
  | .held _ => 1
def uptoBulkAll {H : Type} : List (DataW H) → Nat
  | [] => 0
  | d :: r => uptoBulk d + uptoBulkAll r
def uptoBulkEntries {H : Type} : List (Lit × DataW H) → Nat
  | [] => 0
  | x :: r => uptoBulkEntry x + uptoBulkEntries r
def uptoBulkEntry {H : Type} : Lit × DataW H → Nat
  | (.string bytes, d) => bytes.length + uptoBulk d + 1
  | (_, d) => uptoBulk d + 1
 end
def uptoSmall : (H : Type) → List (DataW H) → Bool := fun _ ds => decide (uptoBulkAll ds ≤ 1048576)
def OpenSpec.upto (s : _root_.Go.ChangeSpec) : _root_.Go.OpenSpec := { _root_.Go.OpenSpec.ofChange s with cond := some uptoSmall }

/-- 'laws.FnExactDualsOf', WHERE WHAT IT READS IS OF BULK AT MOST 1048576: true; the input reads as it did. -/
def fnExactDualsOfUptoRow : OpenClaim := { program := "ytimieikdngoppaa", sum := "2e49d5a8aec58144c099440f44051c67bd9a5ccc0bdb649d805988be0942fddb", func := "loop.example/g00265/laws.FnExactDualsOf", spec := "fnExactDualsOf", unfollowed := true, recurses := true, apart := false, narrowed := true }
def FnExactDualsOfUptoSaid : Prop := fnExactDualsOfUptoRow.holds Try.pinned (OpenSpec.upto fnExactDualsOfSpec)

/-- 'laws.FnExactNextRand', WHERE WHAT IT READS IS OF BULK AT MOST 1048576: true; the input reads as it did. -/
def fnExactNextRandUptoRow : OpenClaim := { program := "ytimieikdngoppaa", sum := "2e49d5a8aec58144c099440f44051c67bd9a5ccc0bdb649d805988be0942fddb", func := "loop.example/g00265/laws.FnExactNextRand", spec := "fnExactNextRand", apart := false, narrowed := true }
def FnExactNextRandUptoSaid : Prop := fnExactNextRandUptoRow.holds Try.pinned (OpenSpec.upto fnExactNextRandSpec)

/-- 'laws.FnExactPicked', WHERE WHAT IT READS IS OF BULK AT MOST 1048576: true; the input reads as it did. -/
def fnExactPickedUptoRow : OpenClaim := { program := "ytimieikdngoppaa", sum := "2e49d5a8aec58144c099440f44051c67bd9a5ccc0bdb649d805988be0942fddb", func := "loop.example/g00265/laws.FnExactPicked", spec := "fnExactPicked", apart := false, narrowed := true }
def FnExactPickedUptoSaid : Prop := fnExactPickedUptoRow.holds Try.pinned (OpenSpec.upto fnExactPickedSpec)

end Rows
end Go.Proofs.Ytimieikdngoppaa
