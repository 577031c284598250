/-
  No cell of these rows narrows 'for every input' (looked for: loops, veiled, ifaces, maps, wideKeys, modest, calm, conditions, laid).
  DERIVED. THE GIVEN ROWS OF THIS SEAT. 6 by the template 'for every input the law returns true; each argument reads behind the call as it read before'; 0 by the template 'total and deterministic' (their statements: YtkmghjogmedpbaaTotals.lean).
  GIVEN WITH THE SEED: the statements are not yours to turn. If you find one false, say at which input.
  Laid BY PROGRAM, IN A SANDBOX (cutbox-rows.mjs): the forced cells as the released guide's own fill.sh prints them over the translation e08609259e39a180… (all of the seat's roots in one cut). By AI agents, Wed Nov 11 2026. No macro, syntax, notation, axiom, sorry.
-/
import Derived.Test.YtkmghjogmedpbaaChecked
import GoSem.Claim
import GoSem.ClaimJoined
import GoSem.ClaimMapViews
import Derived.JoinedTies
import Derived.KernelRfl
namespace Go.Proofs.Ytkmghjogmedpbaa
/- THE CELL 'sum', in the pinned program and in every row, IS THE sha256 OF THE DUMP (.gsa) THAT YtkmghjogmedpbaaProg.lean LOADS. Nothing in Lean hashes anything: it is a label: what it is worth is what the hold of that sum in a sandbox is worth. -/
noncomputable def Try.pinned : Pinned := { name := "ytkmghjogmedpbaa", sum := "e08609259e39a1803a2e9598a6d0259373b1b96d9fd8edc89e9a088c2a61f743", checked := Try.checked }
namespace Rows
def none {H : Type} : Left H := { results := [], args := [] }

/-- 'laws.FnExactInsertAt': WHATEVER THE INPUT: true; the input reads as it did. -/
def fnExactInsertAtSpec : ChangeSpec := { name := "fnExactInsertAt", fn := fun _ => fun
  | [d1, d2, d3, d4] => { results := [.lit (.bool true)], args := [d1, d2, d3, d4] }
  | _ => none }
def fnExactInsertAtRow : OpenClaim := { program := "ytkmghjogmedpbaa", sum := "e08609259e39a1803a2e9598a6d0259373b1b96d9fd8edc89e9a088c2a61f743", func := "loop.example/g00265/laws.FnExactInsertAt", spec := "fnExactInsertAt", inPlace := ["slices.overlaps[int64]"], unfollowed := true, recurses := true, apart := false }
def FnExactInsertAtSaid : Prop := fnExactInsertAtRow.holds Try.pinned (OpenSpec.ofChange fnExactInsertAtSpec)

/-- ITS FALSE NEIGHBOUR: 'it returns false'. Refute it at one input. -/
def fnExactInsertAtWrong : ChangeSpec := { name := "fnExactInsertAt", fn := fun _ => fun
  | [d1, d2, d3, d4] => { results := [.lit (.bool false)], args := [d1, d2, d3, d4] }
  | _ => none }
def FnExactInsertAtWrongFalsely : Prop := fnExactInsertAtRow.holds Try.pinned (OpenSpec.ofChange fnExactInsertAtWrong)

/-- 'laws.FnExactRemoved': WHATEVER THE INPUT: true; the input reads as it did. -/
def fnExactRemovedSpec : ChangeSpec := { name := "fnExactRemoved", fn := fun _ => fun
  | [d1, d2, d3] => { results := [.lit (.bool true)], args := [d1, d2, d3] }
  | _ => none }
def fnExactRemovedRow : OpenClaim := { program := "ytkmghjogmedpbaa", sum := "e08609259e39a1803a2e9598a6d0259373b1b96d9fd8edc89e9a088c2a61f743", func := "loop.example/g00265/laws.FnExactRemoved", spec := "fnExactRemoved", unfollowed := true, recurses := true, apart := false }
def FnExactRemovedSaid : Prop := fnExactRemovedRow.holds Try.pinned (OpenSpec.ofChange fnExactRemovedSpec)

/-- ITS FALSE NEIGHBOUR: 'it returns false'. Refute it at one input. -/
def fnExactRemovedWrong : ChangeSpec := { name := "fnExactRemoved", fn := fun _ => fun
  | [d1, d2, d3] => { results := [.lit (.bool false)], args := [d1, d2, d3] }
  | _ => none }
def FnExactRemovedWrongFalsely : Prop := fnExactRemovedRow.holds Try.pinned (OpenSpec.ofChange fnExactRemovedWrong)

/-- 'laws.FnExactBestPlace': WHATEVER THE INPUT: true; the input reads as it did. -/
def fnExactBestPlaceSpec : ChangeSpec := { name := "fnExactBestPlace", fn := fun _ => fun
  | [d1, d2, d3] => { results := [.lit (.bool true)], args := [d1, d2, d3] }
  | _ => none }
def fnExactBestPlaceRow : OpenClaim := { program := "ytkmghjogmedpbaa", sum := "e08609259e39a1803a2e9598a6d0259373b1b96d9fd8edc89e9a088c2a61f743", func := "loop.example/g00265/laws.FnExactBestPlace", spec := "fnExactBestPlace", inPlace := ["slices.overlaps[int64]"], unfollowed := true, recurses := true, apart := false }
def FnExactBestPlaceSaid : Prop := fnExactBestPlaceRow.holds Try.pinned (OpenSpec.ofChange fnExactBestPlaceSpec)

/-- ITS FALSE NEIGHBOUR: 'it returns false'. Refute it at one input. -/
def fnExactBestPlaceWrong : ChangeSpec := { name := "fnExactBestPlace", fn := fun _ => fun
  | [d1, d2, d3] => { results := [.lit (.bool false)], args := [d1, d2, d3] }
  | _ => none }
def FnExactBestPlaceWrongFalsely : Prop := fnExactBestPlaceRow.holds Try.pinned (OpenSpec.ofChange fnExactBestPlaceWrong)

/-- 'laws.FnExactTwoOpt': WHATEVER THE INPUT: true; the input reads as it did. -/
def fnExactTwoOptSpec : ChangeSpec := { name := "fnExactTwoOpt", fn := fun _ => fun
  | [d1, d2, d3, d4] => { results := [.lit (.bool true)], args := [d1, d2, d3, d4] }
  | _ => none }
def fnExactTwoOptRow : OpenClaim := { program := "ytkmghjogmedpbaa", sum := "e08609259e39a1803a2e9598a6d0259373b1b96d9fd8edc89e9a088c2a61f743", func := "loop.example/g00265/laws.FnExactTwoOpt", spec := "fnExactTwoOpt", unfollowed := true, recurses := true, apart := false }
def FnExactTwoOptSaid : Prop := fnExactTwoOptRow.holds Try.pinned (OpenSpec.ofChange fnExactTwoOptSpec)

/-- ITS FALSE NEIGHBOUR: 'it returns false'. Refute it at one input. -/
def fnExactTwoOptWrong : ChangeSpec := { name := "fnExactTwoOpt", fn := fun _ => fun
  | [d1, d2, d3, d4] => { results := [.lit (.bool false)], args := [d1, d2, d3, d4] }
  | _ => none }
def FnExactTwoOptWrongFalsely : Prop := fnExactTwoOptRow.holds Try.pinned (OpenSpec.ofChange fnExactTwoOptWrong)

/-- 'laws.FnExactBestTwoOpt': WHATEVER THE INPUT: true; the input reads as it did. -/
def fnExactBestTwoOptSpec : ChangeSpec := { name := "fnExactBestTwoOpt", fn := fun _ => fun
  | [d1, d2] => { results := [.lit (.bool true)], args := [d1, d2] }
  | _ => none }
def fnExactBestTwoOptRow : OpenClaim := { program := "ytkmghjogmedpbaa", sum := "e08609259e39a1803a2e9598a6d0259373b1b96d9fd8edc89e9a088c2a61f743", func := "loop.example/g00265/laws.FnExactBestTwoOpt", spec := "fnExactBestTwoOpt", unfollowed := true, recurses := true, apart := false }
def FnExactBestTwoOptSaid : Prop := fnExactBestTwoOptRow.holds Try.pinned (OpenSpec.ofChange fnExactBestTwoOptSpec)

/-- ITS FALSE NEIGHBOUR: 'it returns false'. Refute it at one input. -/
def fnExactBestTwoOptWrong : ChangeSpec := { name := "fnExactBestTwoOpt", fn := fun _ => fun
  | [d1, d2] => { results := [.lit (.bool false)], args := [d1, d2] }
  | _ => none }
def FnExactBestTwoOptWrongFalsely : Prop := fnExactBestTwoOptRow.holds Try.pinned (OpenSpec.ofChange fnExactBestTwoOptWrong)

/-- 'laws.FnExactPolished': WHATEVER THE INPUT: true; the input reads as it did. -/
def fnExactPolishedSpec : ChangeSpec := { name := "fnExactPolished", fn := fun _ => fun
  | [d1, d2] => { results := [.lit (.bool true)], args := [d1, d2] }
  | _ => none }
def fnExactPolishedRow : OpenClaim := { program := "ytkmghjogmedpbaa", sum := "e08609259e39a1803a2e9598a6d0259373b1b96d9fd8edc89e9a088c2a61f743", func := "loop.example/g00265/laws.FnExactPolished", spec := "fnExactPolished", unfollowed := true, recurses := true, apart := false }
def FnExactPolishedSaid : Prop := fnExactPolishedRow.holds Try.pinned (OpenSpec.ofChange fnExactPolishedSpec)

/-- ITS FALSE NEIGHBOUR: 'it returns false'. Refute it at one input. -/
def fnExactPolishedWrong : ChangeSpec := { name := "fnExactPolished", fn := fun _ => fun
  | [d1, d2] => { results := [.lit (.bool false)], args := [d1, d2] }
  | _ => none }
def FnExactPolishedWrongFalsely : Prop := fnExactPolishedRow.holds Try.pinned (OpenSpec.ofChange fnExactPolishedWrong)

/- THE SECOND FORM. 'bulk': how many values and letters a reading holds, each counted each time it is reached (what is shared counts as often as it is met; a slice's spare places count too). A statement '..UptoSaid' is the law's where the arguments, and the package variables that the reading takes, are together of bulk at most 1048576: NARROWER than '..Said'. Prove '..Said' where nothing that the law and all that it calls make is longer than what came in: it says more and counts as full. Else prove '..UptoSaid'. A law counts once. -/
mutual
def uptoBulk {H : Type} : DataW H → Nat
  | .lit (.string bytes) => bytes.length + 1
  | .lit _ => 1
  | .nil => 1
  | .ptr d => uptoBulk d + 1
  | .slice elems spare => uptoBulkAll elems + uptoBulkAll spare + 1
  | .agg parts => uptoBulkAll parts + 1
  | .iface _ d => uptoBulk d + 1
  | .map entries => uptoBulkEntries entries + 1
  | .held _ => 1
def uptoBulkAll {H : Type} : List (DataW H) → Nat
  | [] => 0
  | d :: r => uptoBulk d + uptoBulkAll r
def uptoBulkEntries {H : Type} : List (Lit × DataW H) → Nat
  | [] => 0
  | x :: r => uptoBulkEntry x + uptoBulkEntries r
def uptoBulkEntry {H : Type} : Lit × DataW H → Nat
  | (.string bytes, d) => bytes.length + uptoBulk d + 1
  | (_, d) => uptoBulk d + 1
 end
def uptoSmall : (H : Type) → List (DataW H) → Bool := fun _ ds => decide (uptoBulkAll ds ≤ 1048576)
def OpenSpec.upto (s : _root_.Go.ChangeSpec) : _root_.Go.OpenSpec := { _root_.Go.OpenSpec.ofChange s with cond := some uptoSmall }

/-- 'laws.FnExactInsertAt', WHERE WHAT IT READS IS OF BULK AT MOST 1048576: true; the input reads as it did. -/
def fnExactInsertAtUptoRow : OpenClaim := { program := "ytkmghjogmedpbaa", sum := "e08609259e39a1803a2e9598a6d0259373b1b96d9fd8edc89e9a088c2a61f743", func := "loop.example/g00265/laws.FnExactInsertAt", spec := "fnExactInsertAt", inPlace := ["slices.overlaps[int64]"], unfollowed := true, recurses := true, apart := false, narrowed := true }
def FnExactInsertAtUptoSaid : Prop := fnExactInsertAtUptoRow.holds Try.pinned (OpenSpec.upto fnExactInsertAtSpec)

/-- 'laws.FnExactRemoved', WHERE WHAT IT READS IS OF BULK AT MOST 1048576: true; the input reads as it did. -/
def fnExactRemovedUptoRow : OpenClaim := { program := "ytkmghjogmedpbaa", sum := "e08609259e39a1803a2e9598a6d0259373b1b96d9fd8edc89e9a088c2a61f743", func := "loop.example/g00265/laws.FnExactRemoved", spec := "fnExactRemoved", unfollowed := true, recurses := true, apart := false, narrowed := true }
def FnExactRemovedUptoSaid : Prop := fnExactRemovedUptoRow.holds Try.pinned (OpenSpec.upto fnExactRemovedSpec)

/-- 'laws.FnExactBestPlace', WHERE WHAT IT READS IS OF BULK AT MOST 1048576: true; the input reads as it did. -/
def fnExactBestPlaceUptoRow : OpenClaim := { program := "ytkmghjogmedpbaa", sum := "e08609259e39a1803a2e9598a6d0259373b1b96d9fd8edc89e9a088c2a61f743", func := "loop.example/g00265/laws.FnExactBestPlace", spec := "fnExactBestPlace", inPlace := ["slices.overlaps[int64]"], unfollowed := true, recurses := true, apart := false, narrowed := true }
def FnExactBestPlaceUptoSaid : Prop := fnExactBestPlaceUptoRow.holds Try.pinned (OpenSpec.upto fnExactBestPlaceSpec)

/-- 'laws.FnExactTwoOpt', WHERE WHAT IT READS IS OF BULK AT MOST 1048576: true; the input reads as it did. -/
def fnExactTwoOptUptoRow : OpenClaim := { program := "ytkmghjogmedpbaa", sum := "e08609259e39a1803a2e9598a6d0259373b1b96d9fd8edc89e9a088c2a61f743", func := "loop.example/g00265/laws.FnExactTwoOpt", spec := "fnExactTwoOpt", unfollowed := true, recurses := true, apart := false, narrowed := true }
def FnExactTwoOptUptoSaid : Prop := fnExactTwoOptUptoRow.holds Try.pinned (OpenSpec.upto fnExactTwoOptSpec)

/-- 'laws.FnExactBestTwoOpt', WHERE WHAT IT READS IS OF BULK AT MOST 1048576: true; the input reads as it did. -/
def fnExactBestTwoOptUptoRow : OpenClaim := { program := "ytkmghjogmedpbaa", sum := "e08609259e39a1803a2e9598a6d0259373b1b96d9fd8edc89e9a088c2a61f743", func := "loop.example/g00265/laws.FnExactBestTwoOpt", spec := "fnExactBestTwoOpt", unfollowed := true, recurses := true, apart := false, narrowed := true }
def FnExactBestTwoOptUptoSaid : Prop := fnExactBestTwoOptUptoRow.holds Try.pinned (OpenSpec.upto fnExactBestTwoOptSpec)

/-- 'laws.FnExactPolished', WHERE WHAT IT READS IS OF BULK AT MOST 1048576: true; the input reads as it did. -/
def fnExactPolishedUptoRow : OpenClaim := { program := "ytkmghjogmedpbaa", sum := "e08609259e39a1803a2e9598a6d0259373b1b96d9fd8edc89e9a088c2a61f743", func := "loop.example/g00265/laws.FnExactPolished", spec := "fnExactPolished", unfollowed := true, recurses := true, apart := false, narrowed := true }
def FnExactPolishedUptoSaid : Prop := fnExactPolishedUptoRow.holds Try.pinned (OpenSpec.upto fnExactPolishedSpec)

end Rows
end Go.Proofs.Ytkmghjogmedpbaa
