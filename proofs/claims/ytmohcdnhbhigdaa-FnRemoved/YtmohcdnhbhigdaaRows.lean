/-
  No cell of these rows narrows 'for every input' (looked for: loops, veiled, ifaces, maps, wideKeys, modest, calm, conditions, laid).
  DERIVED. THE GIVEN ROWS OF THIS SEAT. 6 by the template 'for every input the law returns true; each argument reads behind the call as it read before'; 0 by the template 'total and deterministic' (their statements: YtmohcdnhbhigdaaTotals.lean).
  GIVEN WITH THE SEED: the statements are not yours to turn. If you find one false, say at which input.
  Laid BY PROGRAM, IN A SANDBOX (cutbox-rows.mjs): the forced cells as the released guide's own fill.sh prints them over the translation 6232b3f2ff3a3d52… (all of the seat's roots in one cut). By AI agents, Wed Nov 11 2026. No macro, syntax, notation, axiom, sorry.
-/
import Derived.Test.YtmohcdnhbhigdaaChecked
import GoSem.Claim
import GoSem.ClaimJoined
import GoSem.ClaimMapViews
import Derived.JoinedTies
import Derived.KernelRfl
namespace Go.Proofs.Ytmohcdnhbhigdaa
/- THE CELL 'sum', in the pinned program and in every row, IS THE sha256 OF THE DUMP (.gsa) THAT YtmohcdnhbhigdaaProg.lean LOADS. Nothing in Lean hashes anything: it is a label: what it is worth is what the hold of that sum in a sandbox is worth. -/
noncomputable def Try.pinned : Pinned := { name := "ytmohcdnhbhigdaa", sum := "6232b3f2ff3a3d52f24ea63627d9a0adfb4ed9f2671e80290e1821cfd6926404", checked := Try.checked }
namespace Rows
def none {H : Type} : Left H := { results := [], args := [] }

/-- 'laws.FnInserted': WHATEVER THE INPUT: true; the input reads as it did. -/
def fnInsertedSpec : ChangeSpec := { name := "fnInserted", fn := fun _ => fun
  | [d] => { results := [.lit (.bool true)], args := [d] }
  | _ => none }
def fnInsertedRow : OpenClaim := { program := "ytmohcdnhbhigdaa", sum := "6232b3f2ff3a3d52f24ea63627d9a0adfb4ed9f2671e80290e1821cfd6926404", func := "loop.example/g00265/laws.FnInserted", spec := "fnInserted", inPlace := ["slices.overlaps[int64]"], unfollowed := true, recurses := true, apart := false }
def FnInsertedSaid : Prop := fnInsertedRow.holds Try.pinned (OpenSpec.ofChange fnInsertedSpec)

/-- ITS FALSE NEIGHBOUR: 'it returns false'. Refute it at one input. -/
def fnInsertedWrong : ChangeSpec := { name := "fnInserted", fn := fun _ => fun
  | [d] => { results := [.lit (.bool false)], args := [d] }
  | _ => none }
def FnInsertedWrongFalsely : Prop := fnInsertedRow.holds Try.pinned (OpenSpec.ofChange fnInsertedWrong)

/-- 'laws.FnRemoved': WHATEVER THE INPUT: true; the input reads as it did. -/
def fnRemovedSpec : ChangeSpec := { name := "fnRemoved", fn := fun _ => fun
  | [d] => { results := [.lit (.bool true)], args := [d] }
  | _ => none }
def fnRemovedRow : OpenClaim := { program := "ytmohcdnhbhigdaa", sum := "6232b3f2ff3a3d52f24ea63627d9a0adfb4ed9f2671e80290e1821cfd6926404", func := "loop.example/g00265/laws.FnRemoved", spec := "fnRemoved", inPlace := ["slices.overlaps[int64]"], unfollowed := true, recurses := true, apart := false }
def FnRemovedSaid : Prop := fnRemovedRow.holds Try.pinned (OpenSpec.ofChange fnRemovedSpec)

/-- ITS FALSE NEIGHBOUR: 'it returns false'. Refute it at one input. -/
def fnRemovedWrong : ChangeSpec := { name := "fnRemoved", fn := fun _ => fun
  | [d] => { results := [.lit (.bool false)], args := [d] }
  | _ => none }
def FnRemovedWrongFalsely : Prop := fnRemovedRow.holds Try.pinned (OpenSpec.ofChange fnRemovedWrong)

/-- 'laws.FnBestPlace': WHATEVER THE INPUT: true; the input reads as it did. -/
def fnBestPlaceSpec : ChangeSpec := { name := "fnBestPlace", fn := fun _ => fun
  | [d] => { results := [.lit (.bool true)], args := [d] }
  | _ => none }
def fnBestPlaceRow : OpenClaim := { program := "ytmohcdnhbhigdaa", sum := "6232b3f2ff3a3d52f24ea63627d9a0adfb4ed9f2671e80290e1821cfd6926404", func := "loop.example/g00265/laws.FnBestPlace", spec := "fnBestPlace", inPlace := ["slices.overlaps[int64]"], unfollowed := true, recurses := true, apart := false }
def FnBestPlaceSaid : Prop := fnBestPlaceRow.holds Try.pinned (OpenSpec.ofChange fnBestPlaceSpec)

/-- ITS FALSE NEIGHBOUR: 'it returns false'. Refute it at one input. -/
def fnBestPlaceWrong : ChangeSpec := { name := "fnBestPlace", fn := fun _ => fun
  | [d] => { results := [.lit (.bool false)], args := [d] }
  | _ => none }
def FnBestPlaceWrongFalsely : Prop := fnBestPlaceRow.holds Try.pinned (OpenSpec.ofChange fnBestPlaceWrong)

/-- 'laws.FnExactLatest': WHATEVER THE INPUT: true; the input reads as it did. -/
def fnExactLatestSpec : ChangeSpec := { name := "fnExactLatest", fn := fun _ => fun
  | [d1, d2] => { results := [.lit (.bool true)], args := [d1, d2] }
  | _ => none }
def fnExactLatestRow : OpenClaim := { program := "ytmohcdnhbhigdaa", sum := "6232b3f2ff3a3d52f24ea63627d9a0adfb4ed9f2671e80290e1821cfd6926404", func := "loop.example/g00265/laws.FnExactLatest", spec := "fnExactLatest", unfollowed := true, recurses := true, apart := false }
def FnExactLatestSaid : Prop := fnExactLatestRow.holds Try.pinned (OpenSpec.ofChange fnExactLatestSpec)

/-- ITS FALSE NEIGHBOUR: 'it returns false'. Refute it at one input. -/
def fnExactLatestWrong : ChangeSpec := { name := "fnExactLatest", fn := fun _ => fun
  | [d1, d2] => { results := [.lit (.bool false)], args := [d1, d2] }
  | _ => none }
def FnExactLatestWrongFalsely : Prop := fnExactLatestRow.holds Try.pinned (OpenSpec.ofChange fnExactLatestWrong)

/-- 'laws.FnExactInsertAt': WHATEVER THE INPUT: true; the input reads as it did. -/
def fnExactInsertAtSpec : ChangeSpec := { name := "fnExactInsertAt", fn := fun _ => fun
  | [d1, d2, d3, d4] => { results := [.lit (.bool true)], args := [d1, d2, d3, d4] }
  | _ => none }
def fnExactInsertAtRow : OpenClaim := { program := "ytmohcdnhbhigdaa", sum := "6232b3f2ff3a3d52f24ea63627d9a0adfb4ed9f2671e80290e1821cfd6926404", func := "loop.example/g00265/laws.FnExactInsertAt", spec := "fnExactInsertAt", inPlace := ["slices.overlaps[int64]"], unfollowed := true, recurses := true, apart := false }
def FnExactInsertAtSaid : Prop := fnExactInsertAtRow.holds Try.pinned (OpenSpec.ofChange fnExactInsertAtSpec)

/-- ITS FALSE NEIGHBOUR: 'it returns false'. Refute it at one input. -/
def fnExactInsertAtWrong : ChangeSpec := { name := "fnExactInsertAt", fn := fun _ => fun
  | [d1, d2, d3, d4] => { results := [.lit (.bool false)], args := [d1, d2, d3, d4] }
  | _ => none }
def FnExactInsertAtWrongFalsely : Prop := fnExactInsertAtRow.holds Try.pinned (OpenSpec.ofChange fnExactInsertAtWrong)

/-- 'laws.FnExactBestPlace': WHATEVER THE INPUT: true; the input reads as it did. -/
def fnExactBestPlaceSpec : ChangeSpec := { name := "fnExactBestPlace", fn := fun _ => fun
  | [d1, d2, d3] => { results := [.lit (.bool true)], args := [d1, d2, d3] }
  | _ => none }
def fnExactBestPlaceRow : OpenClaim := { program := "ytmohcdnhbhigdaa", sum := "6232b3f2ff3a3d52f24ea63627d9a0adfb4ed9f2671e80290e1821cfd6926404", func := "loop.example/g00265/laws.FnExactBestPlace", spec := "fnExactBestPlace", inPlace := ["slices.overlaps[int64]"], unfollowed := true, recurses := true, apart := false }
def FnExactBestPlaceSaid : Prop := fnExactBestPlaceRow.holds Try.pinned (OpenSpec.ofChange fnExactBestPlaceSpec)

/-- ITS FALSE NEIGHBOUR: 'it returns false'. Refute it at one input. -/
def fnExactBestPlaceWrong : ChangeSpec := { name := "fnExactBestPlace", fn := fun _ => fun
  | [d1, d2, d3] => { results := [.lit (.bool false)], args := [d1, d2, d3] }
  | _ => none }
def FnExactBestPlaceWrongFalsely : Prop := fnExactBestPlaceRow.holds Try.pinned (OpenSpec.ofChange fnExactBestPlaceWrong)

/- THE SECOND FORM. 'bulk': how many values and letters a reading holds, each counted each time it is reached (what is shared counts as often as it is met; a slice's spare places count too). A statement '..UptoSaid' is the law's where the arguments, and the package variables that the reading takes, are together of bulk at most 1048576: NARROWER than '..Said'. Prove '..Said' where nothing that the law and all that it calls make is longer than what came in: it says more and counts as full. Else prove '..UptoSaid'. A law counts once. -/
mutual
def uptoBulk {H : Type} : DataW H → Nat
  | .lit (.string bytes) => bytes.length + 1
  | .lit _ => 1
  | .nil => 1
  | .ptr d => uptoBulk d + 1
  | .slice elems spare => uptoBulkAll elems + uptoBulkAll spare + 1
  | .agg parts => uptoBulkAll parts + 1
  | .iface _ d => uptoBulk d + 1
  | .map entries => uptoBulkEntries entries + 1
  | .held _ => 1
def uptoBulkAll {H : Type} : List (DataW H) → Nat
  | [] => 0
  | d :: r => uptoBulk d + uptoBulkAll r
def uptoBulkEntries {H : Type} : List (Lit × DataW H) → Nat
  | [] => 0
  | x :: r => uptoBulkEntry x + uptoBulkEntries r
def uptoBulkEntry {H : Type} : Lit × DataW H → Nat
  | (.string bytes, d) => bytes.length + uptoBulk d + 1
  | (_, d) => uptoBulk d + 1
 end
def uptoSmall : (H : Type) → List (DataW H) → Bool := fun _ ds => decide (uptoBulkAll ds ≤ 1048576)
def OpenSpec.upto (s : _root_.Go.ChangeSpec) : _root_.Go.OpenSpec := { _root_.Go.OpenSpec.ofChange s with cond := some uptoSmall }

/-- 'laws.FnInserted', WHERE WHAT IT READS IS OF BULK AT MOST 1048576: true; the input reads as it did. -/
def fnInsertedUptoRow : OpenClaim := { program := "ytmohcdnhbhigdaa", sum := "6232b3f2ff3a3d52f24ea63627d9a0adfb4ed9f2671e80290e1821cfd6926404", func := "loop.example/g00265/laws.FnInserted", spec := "fnInserted", inPlace := ["slices.overlaps[int64]"], unfollowed := true, recurses := true, apart := false, narrowed := true }
def FnInsertedUptoSaid : Prop := fnInsertedUptoRow.holds Try.pinned (OpenSpec.upto fnInsertedSpec)

/-- 'laws.FnRemoved', WHERE WHAT IT READS IS OF BULK AT MOST 1048576: true; the input reads as it did. -/
def fnRemovedUptoRow : OpenClaim := { program := "ytmohcdnhbhigdaa", sum := "6232b3f2ff3a3d52f24ea63627d9a0adfb4ed9f2671e80290e1821cfd6926404", func := "loop.example/g00265/laws.FnRemoved", spec := "fnRemoved", inPlace := ["slices.overlaps[int64]"], unfollowed := true, recurses := true, apart := false, narrowed := true }
def FnRemovedUptoSaid : Prop := fnRemovedUptoRow.holds Try.pinned (OpenSpec.upto fnRemovedSpec)

/-- 'laws.FnBestPlace', WHERE WHAT IT READS IS OF BULK AT MOST 1048576: true; the input reads as it did. -/
def fnBestPlaceUptoRow : OpenClaim := { program := "ytmohcdnhbhigdaa", sum := "6232b3f2ff3a3d52f24ea63627d9a0adfb4ed9f2671e80290e1821cfd6926404", func := "loop.example/g00265/laws.FnBestPlace", spec := "fnBestPlace", inPlace := ["slices.overlaps[int64]"], unfollowed := true, recurses := true, apart := false, narrowed := true }
def FnBestPlaceUptoSaid : Prop := fnBestPlaceUptoRow.holds Try.pinned (OpenSpec.upto fnBestPlaceSpec)

/-- 'laws.FnExactLatest', WHERE WHAT IT READS IS OF BULK AT MOST 1048576: true; the input reads as it did. -/
def fnExactLatestUptoRow : OpenClaim := { program := "ytmohcdnhbhigdaa", sum := "6232b3f2ff3a3d52f24ea63627d9a0adfb4ed9f2671e80290e1821cfd6926404", func := "loop.example/g00265/laws.FnExactLatest", spec := "fnExactLatest", unfollowed := true, recurses := true, apart := false, narrowed := true }
def FnExactLatestUptoSaid : Prop := fnExactLatestUptoRow.holds Try.pinned (OpenSpec.upto fnExactLatestSpec)

/-- 'laws.FnExactInsertAt', WHERE WHAT IT READS IS OF BULK AT MOST 1048576: true; the input reads as it did. -/
def fnExactInsertAtUptoRow : OpenClaim := { program := "ytmohcdnhbhigdaa", sum := "6232b3f2ff3a3d52f24ea63627d9a0adfb4ed9f2671e80290e1821cfd6926404", func := "loop.example/g00265/laws.FnExactInsertAt", spec := "fnExactInsertAt", inPlace := ["slices.overlaps[int64]"], unfollowed := true, recurses := true, apart := false, narrowed := true }
def FnExactInsertAtUptoSaid : Prop := fnExactInsertAtUptoRow.holds Try.pinned (OpenSpec.upto fnExactInsertAtSpec)

/-- 'laws.FnExactBestPlace', WHERE WHAT IT READS IS OF BULK AT MOST 1048576: true; the input reads as it did. -/
def fnExactBestPlaceUptoRow : OpenClaim := { program := "ytmohcdnhbhigdaa", sum := "6232b3f2ff3a3d52f24ea63627d9a0adfb4ed9f2671e80290e1821cfd6926404", func := "loop.example/g00265/laws.FnExactBestPlace", spec := "fnExactBestPlace", inPlace := ["slices.overlaps[int64]"], unfollowed := true, recurses := true, apart := false, narrowed := true }
def FnExactBestPlaceUptoSaid : Prop := fnExactBestPlaceUptoRow.holds Try.pinned (OpenSpec.upto fnExactBestPlaceSpec)

end Rows
end Go.Proofs.Ytmohcdnhbhigdaa
