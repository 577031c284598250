/-
  DERIVED. GIVEN WITH THE SEED: THE CARDS: each row of YtehfjfmfpdgibaaGreatDoorRows.lean that lists a variable, with what it lists TIED to the program's text (the seventh form; the later family's looks); each row that meets fmt, with fmt's text TOLD by the authors' own Lean function (tested against real Go, not proved from fmt's source: count such statements apart). THE CARD IS WHAT COUNTS. Prove the row's statement (the work); the ties are given (YtehfjfmfpdgibaaGreatDoorTie.lean); close each card by the builder's one call (the guide's Derived/Test/ToyasCard.lean, 'card_holds'). Laid BY PROGRAM, IN A SANDBOX (cutbox-door.mjs). By AI agents, Wed Nov 11 2026. No macro, syntax, notation, axiom, sorry.
-/
import Derived.Test.YtehfjfmfpdgibaaGreatDoorRows
import GoSem.ClaimSeven
namespace Go.Proofs.YtehfjfmfpdgibaaGreatDoor
namespace Rows

/-- THE TIED CARD OF 'laws.FnExactStoreOk'. -/
def fnExactStoreOkCard : Claim7 := { stood := { row := fnExactStoreOkRow, standIns := [], harness := (true, "a0f061df74bbb271dfc30ed5dacdc3e886d8b44f99b4fa7cd2df7ec7ee125a1c"), looks := false }, kinds := [], alts := [], laidByText := true, laidKinds := [.sentinel, .sentinel], laidTests := true, laidLooks := .later }
def FnExactStoreOkCardSaid : Prop := Claim7.holds Tryz.pinned (.plain (OpenSpec.ofChange fnExactStoreOkSpec)) fnExactStoreOkCard

/-- THE TIED CARD OF 'laws.FnExactTenantOf'. -/
def fnExactTenantOfCard : Claim7 := { stood := { row := fnExactTenantOfRow, standIns := [], harness := (true, "a0f061df74bbb271dfc30ed5dacdc3e886d8b44f99b4fa7cd2df7ec7ee125a1c"), looks := false }, kinds := [], alts := [], laidByText := true, laidKinds := [.sentinel, .sentinel, .sentinel], laidTests := true, laidLooks := .later }
def FnExactTenantOfCardSaid : Prop := Claim7.holds Tryz.pinned (.plain (OpenSpec.ofChange fnExactTenantOfSpec)) fnExactTenantOfCard

/-- THE TIED CARD OF 'laws.FnExactPublishedOf'. -/
def fnExactPublishedOfCard : Claim7 := { stood := { row := fnExactPublishedOfRow, standIns := [], harness := (true, "a0f061df74bbb271dfc30ed5dacdc3e886d8b44f99b4fa7cd2df7ec7ee125a1c"), looks := false }, kinds := [], alts := [], laidByText := true, laidKinds := [.sentinel, .sentinel, .sentinel], laidTests := true, laidLooks := .later }
def FnExactPublishedOfCardSaid : Prop := Claim7.holds Tryz.pinned (.plain (OpenSpec.ofChange fnExactPublishedOfSpec)) fnExactPublishedOfCard

/-- THE TIED CARD OF 'laws.FnExactStoreText'. -/
def fnExactStoreTextCard : Claim7 := { stood := { row := fnExactStoreTextRow, standIns := [], harness := (true, "a0f061df74bbb271dfc30ed5dacdc3e886d8b44f99b4fa7cd2df7ec7ee125a1c"), looks := false }, kinds := [], alts := [], laidByText := true, laidKinds := [.data, .data, .data, .sentinel, .sentinel], laidTests := true, laidLooks := .later }
def FnExactStoreTextCardSaid : Prop := Claim7.holds Tryz.pinned (.plain (OpenSpec.ofChange fnExactStoreTextSpec)) fnExactStoreTextCard

/-- THE TIED CARD OF 'laws.FnExactReadStore'. -/
def fnExactReadStoreCard : Claim7 := { stood := { row := fnExactReadStoreRow, standIns := [], harness := (true, "a0f061df74bbb271dfc30ed5dacdc3e886d8b44f99b4fa7cd2df7ec7ee125a1c"), looks := false }, kinds := [], alts := [], laidByText := true, laidKinds := [.sentinel, .sentinel], laidTests := true, laidLooks := .later }
def FnExactReadStoreCardSaid : Prop := Claim7.holds Tryz.pinned (.plain (OpenSpec.ofChange fnExactReadStoreSpec)) fnExactReadStoreCard

/-- THE SECOND FORM's CARD OF 'laws.FnExactStoreOk'. -/
def fnExactStoreOkUptoCard : Claim7 := { stood := { row := fnExactStoreOkUptoRow, standIns := [], harness := (true, "a0f061df74bbb271dfc30ed5dacdc3e886d8b44f99b4fa7cd2df7ec7ee125a1c"), looks := false }, kinds := [], alts := [], laidByText := true, laidKinds := [.sentinel, .sentinel], laidTests := true, laidLooks := .later }
def FnExactStoreOkUptoCardSaid : Prop := Claim7.holds Tryz.pinned (.plain (OpenSpec.upto fnExactStoreOkSpec)) fnExactStoreOkUptoCard

/-- THE SECOND FORM's CARD OF 'laws.FnExactTenantOf'. -/
def fnExactTenantOfUptoCard : Claim7 := { stood := { row := fnExactTenantOfUptoRow, standIns := [], harness := (true, "a0f061df74bbb271dfc30ed5dacdc3e886d8b44f99b4fa7cd2df7ec7ee125a1c"), looks := false }, kinds := [], alts := [], laidByText := true, laidKinds := [.sentinel, .sentinel, .sentinel], laidTests := true, laidLooks := .later }
def FnExactTenantOfUptoCardSaid : Prop := Claim7.holds Tryz.pinned (.plain (OpenSpec.upto fnExactTenantOfSpec)) fnExactTenantOfUptoCard

/-- THE SECOND FORM's CARD OF 'laws.FnExactPublishedOf'. -/
def fnExactPublishedOfUptoCard : Claim7 := { stood := { row := fnExactPublishedOfUptoRow, standIns := [], harness := (true, "a0f061df74bbb271dfc30ed5dacdc3e886d8b44f99b4fa7cd2df7ec7ee125a1c"), looks := false }, kinds := [], alts := [], laidByText := true, laidKinds := [.sentinel, .sentinel, .sentinel], laidTests := true, laidLooks := .later }
def FnExactPublishedOfUptoCardSaid : Prop := Claim7.holds Tryz.pinned (.plain (OpenSpec.upto fnExactPublishedOfSpec)) fnExactPublishedOfUptoCard

/-- THE SECOND FORM's CARD OF 'laws.FnExactStoreText'. -/
def fnExactStoreTextUptoCard : Claim7 := { stood := { row := fnExactStoreTextUptoRow, standIns := [], harness := (true, "a0f061df74bbb271dfc30ed5dacdc3e886d8b44f99b4fa7cd2df7ec7ee125a1c"), looks := false }, kinds := [], alts := [], laidByText := true, laidKinds := [.data, .data, .data, .sentinel, .sentinel], laidTests := true, laidLooks := .later }
def FnExactStoreTextUptoCardSaid : Prop := Claim7.holds Tryz.pinned (.plain (OpenSpec.upto fnExactStoreTextSpec)) fnExactStoreTextUptoCard

/-- THE SECOND FORM's CARD OF 'laws.FnExactReadStore'. -/
def fnExactReadStoreUptoCard : Claim7 := { stood := { row := fnExactReadStoreUptoRow, standIns := [], harness := (true, "a0f061df74bbb271dfc30ed5dacdc3e886d8b44f99b4fa7cd2df7ec7ee125a1c"), looks := false }, kinds := [], alts := [], laidByText := true, laidKinds := [.sentinel, .sentinel], laidTests := true, laidLooks := .later }
def FnExactReadStoreUptoCardSaid : Prop := Claim7.holds Tryz.pinned (.plain (OpenSpec.upto fnExactReadStoreSpec)) fnExactReadStoreUptoCard
end Rows
end Go.Proofs.YtehfjfmfpdgibaaGreatDoor
