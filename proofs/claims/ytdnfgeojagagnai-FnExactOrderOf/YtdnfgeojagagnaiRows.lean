/-
  No cell of these rows narrows 'for every input' (looked for: loops, veiled, ifaces, maps, wideKeys, modest, calm, conditions, laid).
  DERIVED. THE GIVEN ROWS OF THIS SEAT. 6 by the template 'for every input the law returns true; each argument reads behind the call as it read before'; 0 by the template 'total and deterministic' (their statements: YtdnfgeojagagnaiTotals.lean).
  GIVEN WITH THE SEED: the statements are not yours to turn. If you find one false, say at which input.
  Laid BY PROGRAM, IN A SANDBOX (cutbox-rows.mjs): the forced cells as the released guide's own fill.sh prints them over the translation 52743b9ae5435c51… (all of the seat's roots in one cut). By AI agents, Wed Nov 11 2026. No macro, syntax, notation, axiom, sorry.
-/
import Derived.Test.YtdnfgeojagagnaiChecked
import GoSem.Claim
import GoSem.ClaimJoined
import GoSem.ClaimMapViews
import Derived.JoinedTies
import Derived.KernelRfl
namespace Go.Proofs.Ytdnfgeojagagnai
/- THE CELL 'sum', in the pinned program and in every row, IS THE sha256 OF THE DUMP (.gsa) THAT YtdnfgeojagagnaiProg.lean LOADS. Nothing in Lean hashes anything: it is a label: what it is worth is what the hold of that sum in a sandbox is worth. -/
noncomputable def Try.pinned : Pinned := { name := "ytdnfgeojagagnai", sum := "52743b9ae5435c51d8035ef850118471183300cc30af6d0fe3c1718718569dff", checked := Try.checked }
namespace Rows
def none {H : Type} : Left H := { results := [], args := [] }

/-- 'laws.FnExactClosed': WHATEVER THE INPUT: true; the input reads as it did. -/
def fnExactClosedSpec : ChangeSpec := { name := "fnExactClosed", fn := fun _ => fun
  | [d] => { results := [.lit (.bool true)], args := [d] }
  | _ => none }
def fnExactClosedRow : OpenClaim := { program := "ytdnfgeojagagnai", sum := "52743b9ae5435c51d8035ef850118471183300cc30af6d0fe3c1718718569dff", func := "loop.example/g00265/laws.FnExactClosed", spec := "fnExactClosed", apart := false }
def FnExactClosedSaid : Prop := fnExactClosedRow.holds Try.pinned (OpenSpec.ofChange fnExactClosedSpec)

/-- ITS FALSE NEIGHBOUR: 'it returns false'. Refute it at one input. -/
def fnExactClosedWrong : ChangeSpec := { name := "fnExactClosed", fn := fun _ => fun
  | [d] => { results := [.lit (.bool false)], args := [d] }
  | _ => none }
def FnExactClosedWrongFalsely : Prop := fnExactClosedRow.holds Try.pinned (OpenSpec.ofChange fnExactClosedWrong)

/-- 'laws.FnExactTriangle': WHATEVER THE INPUT: true; the input reads as it did. -/
def fnExactTriangleSpec : ChangeSpec := { name := "fnExactTriangle", fn := fun _ => fun
  | [d] => { results := [.lit (.bool true)], args := [d] }
  | _ => none }
def fnExactTriangleRow : OpenClaim := { program := "ytdnfgeojagagnai", sum := "52743b9ae5435c51d8035ef850118471183300cc30af6d0fe3c1718718569dff", func := "loop.example/g00265/laws.FnExactTriangle", spec := "fnExactTriangle", apart := false }
def FnExactTriangleSaid : Prop := fnExactTriangleRow.holds Try.pinned (OpenSpec.ofChange fnExactTriangleSpec)

/-- ITS FALSE NEIGHBOUR: 'it returns false'. Refute it at one input. -/
def fnExactTriangleWrong : ChangeSpec := { name := "fnExactTriangle", fn := fun _ => fun
  | [d] => { results := [.lit (.bool false)], args := [d] }
  | _ => none }
def FnExactTriangleWrongFalsely : Prop := fnExactTriangleRow.holds Try.pinned (OpenSpec.ofChange fnExactTriangleWrong)

/-- 'laws.FnExactSymmetric': WHATEVER THE INPUT: true; the input reads as it did. -/
def fnExactSymmetricSpec : ChangeSpec := { name := "fnExactSymmetric", fn := fun _ => fun
  | [d] => { results := [.lit (.bool true)], args := [d] }
  | _ => none }
def fnExactSymmetricRow : OpenClaim := { program := "ytdnfgeojagagnai", sum := "52743b9ae5435c51d8035ef850118471183300cc30af6d0fe3c1718718569dff", func := "loop.example/g00265/laws.FnExactSymmetric", spec := "fnExactSymmetric", apart := false }
def FnExactSymmetricSaid : Prop := fnExactSymmetricRow.holds Try.pinned (OpenSpec.ofChange fnExactSymmetricSpec)

/-- ITS FALSE NEIGHBOUR: 'it returns false'. Refute it at one input. -/
def fnExactSymmetricWrong : ChangeSpec := { name := "fnExactSymmetric", fn := fun _ => fun
  | [d] => { results := [.lit (.bool false)], args := [d] }
  | _ => none }
def FnExactSymmetricWrongFalsely : Prop := fnExactSymmetricRow.holds Try.pinned (OpenSpec.ofChange fnExactSymmetricWrong)

/-- 'laws.FnExactCaseOk': WHATEVER THE INPUT: true; the input reads as it did. -/
def fnExactCaseOkSpec : ChangeSpec := { name := "fnExactCaseOk", fn := fun _ => fun
  | [d] => { results := [.lit (.bool true)], args := [d] }
  | _ => none }
def fnExactCaseOkRow : OpenClaim := { program := "ytdnfgeojagagnai", sum := "52743b9ae5435c51d8035ef850118471183300cc30af6d0fe3c1718718569dff", func := "loop.example/g00265/laws.FnExactCaseOk", spec := "fnExactCaseOk", apart := false }
def FnExactCaseOkSaid : Prop := fnExactCaseOkRow.holds Try.pinned (OpenSpec.ofChange fnExactCaseOkSpec)

/-- ITS FALSE NEIGHBOUR: 'it returns false'. Refute it at one input. -/
def fnExactCaseOkWrong : ChangeSpec := { name := "fnExactCaseOk", fn := fun _ => fun
  | [d] => { results := [.lit (.bool false)], args := [d] }
  | _ => none }
def FnExactCaseOkWrongFalsely : Prop := fnExactCaseOkRow.holds Try.pinned (OpenSpec.ofChange fnExactCaseOkWrong)

/-- 'laws.FnExactOrderOf': WHATEVER THE INPUT: true; the input reads as it did. -/
def fnExactOrderOfSpec : ChangeSpec := { name := "fnExactOrderOf", fn := fun _ => fun
  | [d1, d2] => { results := [.lit (.bool true)], args := [d1, d2] }
  | _ => none }
def fnExactOrderOfRow : OpenClaim := { program := "ytdnfgeojagagnai", sum := "52743b9ae5435c51d8035ef850118471183300cc30af6d0fe3c1718718569dff", func := "loop.example/g00265/laws.FnExactOrderOf", spec := "fnExactOrderOf", apart := false }
def FnExactOrderOfSaid : Prop := fnExactOrderOfRow.holds Try.pinned (OpenSpec.ofChange fnExactOrderOfSpec)

/-- ITS FALSE NEIGHBOUR: 'it returns false'. Refute it at one input. -/
def fnExactOrderOfWrong : ChangeSpec := { name := "fnExactOrderOf", fn := fun _ => fun
  | [d1, d2] => { results := [.lit (.bool false)], args := [d1, d2] }
  | _ => none }
def FnExactOrderOfWrongFalsely : Prop := fnExactOrderOfRow.holds Try.pinned (OpenSpec.ofChange fnExactOrderOfWrong)

/-- 'laws.FnExactVehicleOf': WHATEVER THE INPUT: true; the input reads as it did. -/
def fnExactVehicleOfSpec : ChangeSpec := { name := "fnExactVehicleOf", fn := fun _ => fun
  | [d1, d2] => { results := [.lit (.bool true)], args := [d1, d2] }
  | _ => none }
def fnExactVehicleOfRow : OpenClaim := { program := "ytdnfgeojagagnai", sum := "52743b9ae5435c51d8035ef850118471183300cc30af6d0fe3c1718718569dff", func := "loop.example/g00265/laws.FnExactVehicleOf", spec := "fnExactVehicleOf", apart := false }
def FnExactVehicleOfSaid : Prop := fnExactVehicleOfRow.holds Try.pinned (OpenSpec.ofChange fnExactVehicleOfSpec)

/-- ITS FALSE NEIGHBOUR: 'it returns false'. Refute it at one input. -/
def fnExactVehicleOfWrong : ChangeSpec := { name := "fnExactVehicleOf", fn := fun _ => fun
  | [d1, d2] => { results := [.lit (.bool false)], args := [d1, d2] }
  | _ => none }
def FnExactVehicleOfWrongFalsely : Prop := fnExactVehicleOfRow.holds Try.pinned (OpenSpec.ofChange fnExactVehicleOfWrong)

/- THE SECOND FORM. 'bulk': how many values and letters a reading holds, each counted each time it is reached (what is shared counts as often as it is met; a slice's spare places count too). A statement '..UptoSaid' is the law's where the arguments, and the package variables that the reading takes, are together of bulk at most 1048576: NARROWER than '..Said'. Prove '..Said' where nothing that the law and all that it calls make is longer than what came in: it says more and counts as full. Else prove '..UptoSaid'. A law counts once. -/
mutual
def uptoBulk {H : Type} : DataW H → Nat
  | .lit (.string bytes) => bytes.length + 1
  | .lit _ => 1
  | .nil => 1
  | .ptr d => uptoBulk d + 1
  | .slice elems spare => uptoBulkAll elems + uptoBulkAll spare + 1
  | .agg parts => uptoBulkAll parts + 1
  | .iface _ d => uptoBulk d + 1
  | .map entries => uptoBulkEntries entries + 1
  | .held _ => 1
def uptoBulkAll {H : Type} : List (DataW H) → Nat
  | [] => 0
  | d :: r => uptoBulk d + uptoBulkAll r
def uptoBulkEntries {H : Type} : List (Lit × DataW H) → Nat
  | [] => 0
  | x :: r => uptoBulkEntry x + uptoBulkEntries r
def uptoBulkEntry {H : Type} : Lit × DataW H → Nat
  | (.string bytes, d) => bytes.length + uptoBulk d + 1
  | (_, d) => uptoBulk d + 1
 end
def uptoSmall : (H : Type) → List (DataW H) → Bool := fun _ ds => decide (uptoBulkAll ds ≤ 1048576)
def OpenSpec.upto (s : _root_.Go.ChangeSpec) : _root_.Go.OpenSpec := { _root_.Go.OpenSpec.ofChange s with cond := some uptoSmall }

/-- 'laws.FnExactClosed', WHERE WHAT IT READS IS OF BULK AT MOST 1048576: true; the input reads as it did. -/
def fnExactClosedUptoRow : OpenClaim := { program := "ytdnfgeojagagnai", sum := "52743b9ae5435c51d8035ef850118471183300cc30af6d0fe3c1718718569dff", func := "loop.example/g00265/laws.FnExactClosed", spec := "fnExactClosed", apart := false, narrowed := true }
def FnExactClosedUptoSaid : Prop := fnExactClosedUptoRow.holds Try.pinned (OpenSpec.upto fnExactClosedSpec)

/-- 'laws.FnExactTriangle', WHERE WHAT IT READS IS OF BULK AT MOST 1048576: true; the input reads as it did. -/
def fnExactTriangleUptoRow : OpenClaim := { program := "ytdnfgeojagagnai", sum := "52743b9ae5435c51d8035ef850118471183300cc30af6d0fe3c1718718569dff", func := "loop.example/g00265/laws.FnExactTriangle", spec := "fnExactTriangle", apart := false, narrowed := true }
def FnExactTriangleUptoSaid : Prop := fnExactTriangleUptoRow.holds Try.pinned (OpenSpec.upto fnExactTriangleSpec)

/-- 'laws.FnExactSymmetric', WHERE WHAT IT READS IS OF BULK AT MOST 1048576: true; the input reads as it did. -/
def fnExactSymmetricUptoRow : OpenClaim := { program := "ytdnfgeojagagnai", sum := "52743b9ae5435c51d8035ef850118471183300cc30af6d0fe3c1718718569dff", func := "loop.example/g00265/laws.FnExactSymmetric", spec := "fnExactSymmetric", apart := false, narrowed := true }
def FnExactSymmetricUptoSaid : Prop := fnExactSymmetricUptoRow.holds Try.pinned (OpenSpec.upto fnExactSymmetricSpec)

/-- 'laws.FnExactCaseOk', WHERE WHAT IT READS IS OF BULK AT MOST 1048576: true; the input reads as it did. -/
def fnExactCaseOkUptoRow : OpenClaim := { program := "ytdnfgeojagagnai", sum := "52743b9ae5435c51d8035ef850118471183300cc30af6d0fe3c1718718569dff", func := "loop.example/g00265/laws.FnExactCaseOk", spec := "fnExactCaseOk", apart := false, narrowed := true }
def FnExactCaseOkUptoSaid : Prop := fnExactCaseOkUptoRow.holds Try.pinned (OpenSpec.upto fnExactCaseOkSpec)

/-- 'laws.FnExactOrderOf', WHERE WHAT IT READS IS OF BULK AT MOST 1048576: true; the input reads as it did. -/
def fnExactOrderOfUptoRow : OpenClaim := { program := "ytdnfgeojagagnai", sum := "52743b9ae5435c51d8035ef850118471183300cc30af6d0fe3c1718718569dff", func := "loop.example/g00265/laws.FnExactOrderOf", spec := "fnExactOrderOf", apart := false, narrowed := true }
def FnExactOrderOfUptoSaid : Prop := fnExactOrderOfUptoRow.holds Try.pinned (OpenSpec.upto fnExactOrderOfSpec)

/-- 'laws.FnExactVehicleOf', WHERE WHAT IT READS IS OF BULK AT MOST 1048576: true; the input reads as it did. -/
def fnExactVehicleOfUptoRow : OpenClaim := { program := "ytdnfgeojagagnai", sum := "52743b9ae5435c51d8035ef850118471183300cc30af6d0fe3c1718718569dff", func := "loop.example/g00265/laws.FnExactVehicleOf", spec := "fnExactVehicleOf", apart := false, narrowed := true }
def FnExactVehicleOfUptoSaid : Prop := fnExactVehicleOfUptoRow.holds Try.pinned (OpenSpec.upto fnExactVehicleOfSpec)

end Rows
end Go.Proofs.Ytdnfgeojagagnai
