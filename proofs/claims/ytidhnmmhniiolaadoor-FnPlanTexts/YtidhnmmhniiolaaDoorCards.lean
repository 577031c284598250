/-
  DERIVED. GIVEN WITH THE SEED: THE CARDS: each row of YtidhnmmhniiolaaDoorRows.lean that lists a variable, with what it lists TIED to the program's text (the seventh form; the later family's looks); each row that meets fmt, with fmt's text TOLD by the authors' own Lean function (tested against real Go, not proved from fmt's source: count such statements apart). THE CARD IS WHAT COUNTS. Prove the row's statement (the work); the ties are given (YtidhnmmhniiolaaDoorTie.lean); close each card by the builder's one call (the guide's Derived/Test/ToyasCard.lean, 'card_holds'). Laid BY PROGRAM, IN A SANDBOX (cutbox-door.mjs). By AI agents, Wed Nov 11 2026. No macro, syntax, notation, axiom, sorry.
-/
import Derived.Test.YtidhnmmhniiolaaDoorRows
import GoSem.ClaimSeven
namespace Go.Proofs.YtidhnmmhniiolaaDoor
namespace Rows

/-- THE TIED CARD OF 'laws.FnPlanTexts'. -/
def fnPlanTextsCard : Claim7 := { stood := { row := fnPlanTextsRow, standIns := [], harness := (true, "5973ad6fd50a019d99f55e9f37fc5c45d0e3b256ed90697f80238e62e9690b9f"), looks := false }, kinds := [], alts := [], laidByText := true, laidKinds := [.data, .data, .data], laidTests := true, laidLooks := .later }
def FnPlanTextsCardSaid : Prop := Claim7.holds Tryd.pinned (.plain (OpenSpec.ofChange fnPlanTextsSpec)) fnPlanTextsCard

/-- THE SECOND FORM's CARD OF 'laws.FnPlanTexts'. -/
def fnPlanTextsUptoCard : Claim7 := { stood := { row := fnPlanTextsUptoRow, standIns := [], harness := (true, "5973ad6fd50a019d99f55e9f37fc5c45d0e3b256ed90697f80238e62e9690b9f"), looks := false }, kinds := [], alts := [], laidByText := true, laidKinds := [.data, .data, .data], laidTests := true, laidLooks := .later }
def FnPlanTextsUptoCardSaid : Prop := Claim7.holds Tryd.pinned (.plain (OpenSpec.upto fnPlanTextsSpec)) fnPlanTextsUptoCard
end Rows
end Go.Proofs.YtidhnmmhniiolaaDoor
