/-
  DERIVED. GIVEN WITH THE SEED: THE CARDS: each row of YtaofpbmdloihgaaDoorRows.lean that lists a variable, with what it lists TIED to the program's text (the seventh form; the later family's looks); each row that meets fmt, with fmt's text TOLD by the authors' own Lean function (tested against real Go, not proved from fmt's source: count such statements apart). THE CARD IS WHAT COUNTS. Prove the row's statement (the work); the ties are given (YtaofpbmdloihgaaDoorTie.lean); close each card by the builder's one call (the guide's Derived/Test/ToyasCard.lean, 'card_holds'). Laid BY PROGRAM, IN A SANDBOX (cutbox-door.mjs). By AI agents, Wed Nov 11 2026. No macro, syntax, notation, axiom, sorry.
-/
import Derived.Test.YtaofpbmdloihgaaDoorRows
import GoSem.ClaimSeven
namespace Go.Proofs.YtaofpbmdloihgaaDoor
namespace Rows

/-- THE TIED CARD OF 'laws.FnCaseTexts'. -/
def fnCaseTextsCard : Claim7 := { stood := { row := fnCaseTextsRow, standIns := [], harness := (true, "2c7f5d90df6056af8fa2fbe234599f76af3a7b6e7c3b8fc94b28edc565e8b1a7"), looks := false }, kinds := [], alts := [], laidByText := true, laidKinds := [.data, .data, .data], laidTests := true, laidLooks := .later }
def FnCaseTextsCardSaid : Prop := Claim7.holds Tryd.pinned (.plain (OpenSpec.ofChange fnCaseTextsSpec)) fnCaseTextsCard

/-- THE SECOND FORM's CARD OF 'laws.FnCaseTexts'. -/
def fnCaseTextsUptoCard : Claim7 := { stood := { row := fnCaseTextsUptoRow, standIns := [], harness := (true, "2c7f5d90df6056af8fa2fbe234599f76af3a7b6e7c3b8fc94b28edc565e8b1a7"), looks := false }, kinds := [], alts := [], laidByText := true, laidKinds := [.data, .data, .data], laidTests := true, laidLooks := .later }
def FnCaseTextsUptoCardSaid : Prop := Claim7.holds Tryd.pinned (.plain (OpenSpec.upto fnCaseTextsSpec)) fnCaseTextsUptoCard
end Rows
end Go.Proofs.YtaofpbmdloihgaaDoor
