/-
  No cell of these rows narrows 'for every input' (looked for: loops, veiled, ifaces, maps, wideKeys, modest, calm, conditions, laid).
  DERIVED. THE GIVEN ROWS OF THIS SEAT. 2 by the template 'for every input the law returns true; each argument reads behind the call as it read before'; 0 by the template 'total and deterministic' (their statements: YtapboembjcmjoaaTotals.lean).
  GIVEN WITH THE SEED: the statements are not yours to turn. If you find one false, say at which input.
  Laid BY PROGRAM, IN A SANDBOX (cutbox-rows.mjs): the forced cells as the released guide's own fill.sh prints them over the translation 4e60d808cd43932e… (all of the seat's roots in one cut). By AI agents, Wed Nov 11 2026. No macro, syntax, notation, axiom, sorry.
-/
import Derived.Test.YtapboembjcmjoaaChecked
import GoSem.Claim
import GoSem.ClaimJoined
import GoSem.ClaimMapViews
import Derived.JoinedTies
import Derived.KernelRfl
namespace Go.Proofs.Ytapboembjcmjoaa
/- THE CELL 'sum', in the pinned program and in every row, IS THE sha256 OF THE DUMP (.gsa) THAT YtapboembjcmjoaaProg.lean LOADS. Nothing in Lean hashes anything: it is a label: what it is worth is what the hold of that sum in a sandbox is worth. -/
noncomputable def Try.pinned : Pinned := { name := "ytapboembjcmjoaa", sum := "4e60d808cd43932e07c80cc4025bd26031b387cbdd2792f403ea4ed0f8c68676", checked := Try.checked }
namespace Rows
def none {H : Type} : Left H := { results := [], args := [] }

/-- 'laws.FnExactAssigned': WHATEVER THE INPUT: true; the input reads as it did. -/
def fnExactAssignedSpec : ChangeSpec := { name := "fnExactAssigned", fn := fun _ => fun
  | [d1, d2] => { results := [.lit (.bool true)], args := [d1, d2] }
  | _ => none }
def fnExactAssignedRow : OpenClaim := { program := "ytapboembjcmjoaa", sum := "4e60d808cd43932e07c80cc4025bd26031b387cbdd2792f403ea4ed0f8c68676", func := "loop.example/g00265/laws.FnExactAssigned", spec := "fnExactAssigned", unfollowed := true, recurses := true, apart := false }
def FnExactAssignedSaid : Prop := fnExactAssignedRow.holds Try.pinned (OpenSpec.ofChange fnExactAssignedSpec)

/-- ITS FALSE NEIGHBOUR: 'it returns false'. Refute it at one input. -/
def fnExactAssignedWrong : ChangeSpec := { name := "fnExactAssigned", fn := fun _ => fun
  | [d1, d2] => { results := [.lit (.bool false)], args := [d1, d2] }
  | _ => none }
def FnExactAssignedWrongFalsely : Prop := fnExactAssignedRow.holds Try.pinned (OpenSpec.ofChange fnExactAssignedWrong)

/-- 'laws.FnExactDualsOf': WHATEVER THE INPUT: true; the input reads as it did. -/
def fnExactDualsOfSpec : ChangeSpec := { name := "fnExactDualsOf", fn := fun _ => fun
  | [d1, d2] => { results := [.lit (.bool true)], args := [d1, d2] }
  | _ => none }
def fnExactDualsOfRow : OpenClaim := { program := "ytapboembjcmjoaa", sum := "4e60d808cd43932e07c80cc4025bd26031b387cbdd2792f403ea4ed0f8c68676", func := "loop.example/g00265/laws.FnExactDualsOf", spec := "fnExactDualsOf", unfollowed := true, recurses := true, apart := false }
def FnExactDualsOfSaid : Prop := fnExactDualsOfRow.holds Try.pinned (OpenSpec.ofChange fnExactDualsOfSpec)

/-- ITS FALSE NEIGHBOUR: 'it returns false'. Refute it at one input. -/
def fnExactDualsOfWrong : ChangeSpec := { name := "fnExactDualsOf", fn := fun _ => fun
  | [d1, d2] => { results := [.lit (.bool false)], args := [d1, d2] }
  | _ => none }
def FnExactDualsOfWrongFalsely : Prop := fnExactDualsOfRow.holds Try.pinned (OpenSpec.ofChange fnExactDualsOfWrong)

/- THE SECOND FORM. 'bulk': how many values and letters a reading holds, each counted each time it is reached (what is shared counts as often as it is met; a slice's spare places count too). A statement '..UptoSaid' is the law's where the arguments, and the package variables that the reading takes, are together of bulk at most 1048576: NARROWER than '..Said'. Prove '..Said' where nothing that the law and all that it calls make is longer than what came in: it says more and counts as full. Else prove '..UptoSaid'. A law counts once. -/
mutual
def uptoBulk {H : Type} : DataW H → Nat
  | .lit (.string bytes) => bytes.length + 1
  | .lit _ => 1
  | .nil => 1
  | .ptr d => uptoBulk d + 1
  | .slice elems spare => uptoBulkAll elems + uptoBulkAll spare + 1
  | .agg parts => uptoBulkAll parts + 1
  | .iface _ d => uptoBulk d + 1
  | .map entries => uptoBulkEntries entries + 1
  | .held _ => 1
def uptoBulkAll {H : Type} : List (DataW H) → Nat
  | [] => 0
  | d :: r => uptoBulk d + uptoBulkAll r
def uptoBulkEntries {H : Type} : List (Lit × DataW H) → Nat
  | [] => 0
  | x :: r => uptoBulkEntry x + uptoBulkEntries r
def uptoBulkEntry {H : Type} : Lit × DataW H → Nat
  | (.string bytes, d) => bytes.length + uptoBulk d + 1
  | (_, d) => uptoBulk d + 1
 end
def uptoSmall : (H : Type) → List (DataW H) → Bool := fun _ ds => decide (uptoBulkAll ds ≤ 1048576)
def OpenSpec.upto (s : _root_.Go.ChangeSpec) : _root_.Go.OpenSpec := { _root_.Go.OpenSpec.ofChange s with cond := some uptoSmall }

/-- 'laws.FnExactAssigned', WHERE WHAT IT READS IS OF BULK AT MOST 1048576: true; the input reads as it did. -/
def fnExactAssignedUptoRow : OpenClaim := { program := "ytapboembjcmjoaa", sum := "4e60d808cd43932e07c80cc4025bd26031b387cbdd2792f403ea4ed0f8c68676", func := "loop.example/g00265/laws.FnExactAssigned", spec := "fnExactAssigned", unfollowed := true, recurses := true, apart := false, narrowed := true }
def FnExactAssignedUptoSaid : Prop := fnExactAssignedUptoRow.holds Try.pinned (OpenSpec.upto fnExactAssignedSpec)

/-- 'laws.FnExactDualsOf', WHERE WHAT IT READS IS OF BULK AT MOST 1048576: true; the input reads as it did. -/
def fnExactDualsOfUptoRow : OpenClaim := { program := "ytapboembjcmjoaa", sum := "4e60d808cd43932e07c80cc4025bd26031b387cbdd2792f403ea4ed0f8c68676", func := "loop.example/g00265/laws.FnExactDualsOf", spec := "fnExactDualsOf", unfollowed := true, recurses := true, apart := false, narrowed := true }
def FnExactDualsOfUptoSaid : Prop := fnExactDualsOfUptoRow.holds Try.pinned (OpenSpec.upto fnExactDualsOfSpec)

end Rows
end Go.Proofs.Ytapboembjcmjoaa
