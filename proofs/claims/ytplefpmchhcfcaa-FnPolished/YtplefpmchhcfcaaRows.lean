/-
  No cell of these rows narrows 'for every input' (looked for: loops, veiled, ifaces, maps, wideKeys, modest, calm, conditions, laid).
  DERIVED. THE GIVEN ROWS OF THIS SEAT. 4 by the template 'for every input the law returns true; each argument reads behind the call as it read before'; 0 by the template 'total and deterministic' (their statements: YtplefpmchhcfcaaTotals.lean).
  GIVEN WITH THE SEED: the statements are not yours to turn. If you find one false, say at which input.
  Laid BY PROGRAM, IN A SANDBOX (cutbox-rows.mjs): the forced cells as the released guide's own fill.sh prints them over the translation 333d6c31c356d4c1… (all of the seat's roots in one cut). By AI agents, Wed Nov 11 2026. No macro, syntax, notation, axiom, sorry.
-/
import Derived.Test.YtplefpmchhcfcaaChecked
import GoSem.Claim
import GoSem.ClaimJoined
import GoSem.ClaimMapViews
import Derived.JoinedTies
import Derived.KernelRfl
namespace Go.Proofs.Ytplefpmchhcfcaa
/- THE CELL 'sum', in the pinned program and in every row, IS THE sha256 OF THE DUMP (.gsa) THAT YtplefpmchhcfcaaProg.lean LOADS. Nothing in Lean hashes anything: it is a label: what it is worth is what the hold of that sum in a sandbox is worth. -/
noncomputable def Try.pinned : Pinned := { name := "ytplefpmchhcfcaa", sum := "333d6c31c356d4c181409f4c57756d401694a8372591948c83a99b287902467f", checked := Try.checked }
namespace Rows
def none {H : Type} : Left H := { results := [], args := [] }

/-- 'laws.FnInserted': WHATEVER THE INPUT: true; the input reads as it did. -/
def fnInsertedSpec : ChangeSpec := { name := "fnInserted", fn := fun _ => fun
  | [d] => { results := [.lit (.bool true)], args := [d] }
  | _ => none }
def fnInsertedRow : OpenClaim := { program := "ytplefpmchhcfcaa", sum := "333d6c31c356d4c181409f4c57756d401694a8372591948c83a99b287902467f", func := "loop.example/g00265/laws.FnInserted", spec := "fnInserted", inPlace := ["slices.overlaps[int64]"], unfollowed := true, recurses := true, apart := false }
def FnInsertedSaid : Prop := fnInsertedRow.holds Try.pinned (OpenSpec.ofChange fnInsertedSpec)

/-- ITS FALSE NEIGHBOUR: 'it returns false'. Refute it at one input. -/
def fnInsertedWrong : ChangeSpec := { name := "fnInserted", fn := fun _ => fun
  | [d] => { results := [.lit (.bool false)], args := [d] }
  | _ => none }
def FnInsertedWrongFalsely : Prop := fnInsertedRow.holds Try.pinned (OpenSpec.ofChange fnInsertedWrong)

/-- 'laws.FnRemoved': WHATEVER THE INPUT: true; the input reads as it did. -/
def fnRemovedSpec : ChangeSpec := { name := "fnRemoved", fn := fun _ => fun
  | [d] => { results := [.lit (.bool true)], args := [d] }
  | _ => none }
def fnRemovedRow : OpenClaim := { program := "ytplefpmchhcfcaa", sum := "333d6c31c356d4c181409f4c57756d401694a8372591948c83a99b287902467f", func := "loop.example/g00265/laws.FnRemoved", spec := "fnRemoved", inPlace := ["slices.overlaps[int64]"], unfollowed := true, recurses := true, apart := false }
def FnRemovedSaid : Prop := fnRemovedRow.holds Try.pinned (OpenSpec.ofChange fnRemovedSpec)

/-- ITS FALSE NEIGHBOUR: 'it returns false'. Refute it at one input. -/
def fnRemovedWrong : ChangeSpec := { name := "fnRemoved", fn := fun _ => fun
  | [d] => { results := [.lit (.bool false)], args := [d] }
  | _ => none }
def FnRemovedWrongFalsely : Prop := fnRemovedRow.holds Try.pinned (OpenSpec.ofChange fnRemovedWrong)

/-- 'laws.FnBestPlace': WHATEVER THE INPUT: true; the input reads as it did. -/
def fnBestPlaceSpec : ChangeSpec := { name := "fnBestPlace", fn := fun _ => fun
  | [d] => { results := [.lit (.bool true)], args := [d] }
  | _ => none }
def fnBestPlaceRow : OpenClaim := { program := "ytplefpmchhcfcaa", sum := "333d6c31c356d4c181409f4c57756d401694a8372591948c83a99b287902467f", func := "loop.example/g00265/laws.FnBestPlace", spec := "fnBestPlace", inPlace := ["slices.overlaps[int64]"], unfollowed := true, recurses := true, apart := false }
def FnBestPlaceSaid : Prop := fnBestPlaceRow.holds Try.pinned (OpenSpec.ofChange fnBestPlaceSpec)

/-- ITS FALSE NEIGHBOUR: 'it returns false'. Refute it at one input. -/
def fnBestPlaceWrong : ChangeSpec := { name := "fnBestPlace", fn := fun _ => fun
  | [d] => { results := [.lit (.bool false)], args := [d] }
  | _ => none }
def FnBestPlaceWrongFalsely : Prop := fnBestPlaceRow.holds Try.pinned (OpenSpec.ofChange fnBestPlaceWrong)

/-- 'laws.FnPolished': WHATEVER THE INPUT: true; the input reads as it did. -/
def fnPolishedSpec : ChangeSpec := { name := "fnPolished", fn := fun _ => fun
  | [d] => { results := [.lit (.bool true)], args := [d] }
  | _ => none }
def fnPolishedRow : OpenClaim := { program := "ytplefpmchhcfcaa", sum := "333d6c31c356d4c181409f4c57756d401694a8372591948c83a99b287902467f", func := "loop.example/g00265/laws.FnPolished", spec := "fnPolished", unfollowed := true, recurses := true, apart := false }
def FnPolishedSaid : Prop := fnPolishedRow.holds Try.pinned (OpenSpec.ofChange fnPolishedSpec)

/-- ITS FALSE NEIGHBOUR: 'it returns false'. Refute it at one input. -/
def fnPolishedWrong : ChangeSpec := { name := "fnPolished", fn := fun _ => fun
  | [d] => { results := [.lit (.bool false)], args := [d] }
  | _ => none }
def FnPolishedWrongFalsely : Prop := fnPolishedRow.holds Try.pinned (OpenSpec.ofChange fnPolishedWrong)

/- THE SECOND FORM. 'bulk': how many values and letters a reading holds, each counted each time it is reached (what is shared counts as often as it is met; a slice's spare places count too). A statement '..UptoSaid' is the law's where the arguments, and the package variables that the reading takes, are together of bulk at most 1048576: NARROWER than '..Said'. Prove '..Said' where nothing that the law and all that it calls make is longer than what came in: it says more and counts as full. Else prove '..UptoSaid'. A law counts once. -/
mutual
def uptoBulk {H : Type} : DataW H → Nat
  | .lit (.string bytes) => bytes.length + 1
  | .lit _ => 1
  | .nil => 1
  | .ptr d => uptoBulk d + 1
  | .slice elems spare => uptoBulkAll elems + uptoBulkAll spare + 1
  | .agg parts => uptoBulkAll parts + 1
  | .iface _ d => uptoBulk d + 1
  | .map entries => uptoBulkEntries entries + 1
  | .held _ => 1
def uptoBulkAll {H : Type} : List (DataW H) → Nat
  | [] => 0
  | d :: r => uptoBulk d + uptoBulkAll r
def uptoBulkEntries {H : Type} : List (Lit × DataW H) → Nat
  | [] => 0
  | x :: r => uptoBulkEntry x + uptoBulkEntries r
def uptoBulkEntry {H : Type} : Lit × DataW H → Nat
  | (.string bytes, d) => bytes.length + uptoBulk d + 1
  | (_, d) => uptoBulk d + 1
 end
def uptoSmall : (H : Type) → List (DataW H) → Bool := fun _ ds => decide (uptoBulkAll ds ≤ 1048576)
def OpenSpec.upto (s : _root_.Go.ChangeSpec) : _root_.Go.OpenSpec := { _root_.Go.OpenSpec.ofChange s with cond := some uptoSmall }

/-- 'laws.FnInserted', WHERE WHAT IT READS IS OF BULK AT MOST 1048576: true; the input reads as it did. -/
def fnInsertedUptoRow : OpenClaim := { program := "ytplefpmchhcfcaa", sum := "333d6c31c356d4c181409f4c57756d401694a8372591948c83a99b287902467f", func := "loop.example/g00265/laws.FnInserted", spec := "fnInserted", inPlace := ["slices.overlaps[int64]"], unfollowed := true, recurses := true, apart := false, narrowed := true }
def FnInsertedUptoSaid : Prop := fnInsertedUptoRow.holds Try.pinned (OpenSpec.upto fnInsertedSpec)

/-- 'laws.FnRemoved', WHERE WHAT IT READS IS OF BULK AT MOST 1048576: true; the input reads as it did. -/
def fnRemovedUptoRow : OpenClaim := { program := "ytplefpmchhcfcaa", sum := "333d6c31c356d4c181409f4c57756d401694a8372591948c83a99b287902467f", func := "loop.example/g00265/laws.FnRemoved", spec := "fnRemoved", inPlace := ["slices.overlaps[int64]"], unfollowed := true, recurses := true, apart := false, narrowed := true }
def FnRemovedUptoSaid : Prop := fnRemovedUptoRow.holds Try.pinned (OpenSpec.upto fnRemovedSpec)

/-- 'laws.FnBestPlace', WHERE WHAT IT READS IS OF BULK AT MOST 1048576: true; the input reads as it did. -/
def fnBestPlaceUptoRow : OpenClaim := { program := "ytplefpmchhcfcaa", sum := "333d6c31c356d4c181409f4c57756d401694a8372591948c83a99b287902467f", func := "loop.example/g00265/laws.FnBestPlace", spec := "fnBestPlace", inPlace := ["slices.overlaps[int64]"], unfollowed := true, recurses := true, apart := false, narrowed := true }
def FnBestPlaceUptoSaid : Prop := fnBestPlaceUptoRow.holds Try.pinned (OpenSpec.upto fnBestPlaceSpec)

/-- 'laws.FnPolished', WHERE WHAT IT READS IS OF BULK AT MOST 1048576: true; the input reads as it did. -/
def fnPolishedUptoRow : OpenClaim := { program := "ytplefpmchhcfcaa", sum := "333d6c31c356d4c181409f4c57756d401694a8372591948c83a99b287902467f", func := "loop.example/g00265/laws.FnPolished", spec := "fnPolished", unfollowed := true, recurses := true, apart := false, narrowed := true }
def FnPolishedUptoSaid : Prop := fnPolishedUptoRow.holds Try.pinned (OpenSpec.upto fnPolishedSpec)

end Rows
end Go.Proofs.Ytplefpmchhcfcaa
