/-
  DERIVED. GIVEN WITH THE SEED: THE CARDS: each row of YtacdnednkglobaaGreatDoorRows.lean that lists a variable, with what it lists TIED to the program's text (the seventh form; the later family's looks); each row that meets fmt, with fmt's text TOLD by the authors' own Lean function (tested against real Go, not proved from fmt's source: count such statements apart). THE CARD IS WHAT COUNTS. Prove the row's statement (the work); the ties are given (YtacdnednkglobaaGreatDoorTie.lean); close each card by the builder's one call (the guide's Derived/Test/ToyasCard.lean, 'card_holds'). Laid BY PROGRAM, IN A SANDBOX (cutbox-door.mjs). By AI agents, Wed Nov 11 2026. No macro, syntax, notation, axiom, sorry.
-/
import Derived.Test.YtacdnednkglobaaGreatDoorRows
import GoSem.ClaimSeven
namespace Go.Proofs.YtacdnednkglobaaGreatDoor
namespace Rows

/-- THE TIED CARD OF 'laws.FnReads'. -/
def fnReadsCard : Claim7 := { stood := { row := fnReadsRow, standIns := [], harness := (true, "e29ec95039d271193f46a76a80a8f4ec714a298de59a8cc56bae6e3eb593ae42"), looks := true }, kinds := [], alts := [], laidByText := true, laidKinds := [.sentinel], laidTests := true, laidLooks := .later }
def FnReadsCardSaid : Prop := Claim7.holds Tryz.pinned (.plain (OpenSpec.ofChange fnReadsSpec)) fnReadsCard

/-- THE TIED CARD OF 'laws.FnAuths'. -/
def fnAuthsCard : Claim7 := { stood := { row := fnAuthsRow, standIns := [], harness := (true, "e29ec95039d271193f46a76a80a8f4ec714a298de59a8cc56bae6e3eb593ae42"), looks := true }, kinds := [], alts := [], laidByText := true, laidKinds := [.handle, .sentinel], laidTests := true, laidLooks := .later }
def FnAuthsCardSaid : Prop := Claim7.holds Tryz.pinned (.plain (OpenSpec.ofChange fnAuthsSpec)) fnAuthsCard

/-- THE TIED CARD OF 'laws.FnExactCheckAuth'. -/
def fnExactCheckAuthCard : Claim7 := { stood := { row := fnExactCheckAuthRow, standIns := [], harness := (true, "e29ec95039d271193f46a76a80a8f4ec714a298de59a8cc56bae6e3eb593ae42"), looks := true }, kinds := [], alts := [], laidByText := true, laidKinds := [.handle, .sentinel], laidTests := true, laidLooks := .later }
def FnExactCheckAuthCardSaid : Prop := Claim7.holds Tryz.pinned (.plain (OpenSpec.ofChange fnExactCheckAuthSpec)) fnExactCheckAuthCard

/-- THE SECOND FORM's CARD OF 'laws.FnReads'. -/
def fnReadsUptoCard : Claim7 := { stood := { row := fnReadsUptoRow, standIns := [], harness := (true, "e29ec95039d271193f46a76a80a8f4ec714a298de59a8cc56bae6e3eb593ae42"), looks := true }, kinds := [], alts := [], laidByText := true, laidKinds := [.sentinel], laidTests := true, laidLooks := .later }
def FnReadsUptoCardSaid : Prop := Claim7.holds Tryz.pinned (.plain (OpenSpec.upto fnReadsSpec)) fnReadsUptoCard

/-- THE SECOND FORM's CARD OF 'laws.FnAuths'. -/
def fnAuthsUptoCard : Claim7 := { stood := { row := fnAuthsUptoRow, standIns := [], harness := (true, "e29ec95039d271193f46a76a80a8f4ec714a298de59a8cc56bae6e3eb593ae42"), looks := true }, kinds := [], alts := [], laidByText := true, laidKinds := [.handle, .sentinel], laidTests := true, laidLooks := .later }
def FnAuthsUptoCardSaid : Prop := Claim7.holds Tryz.pinned (.plain (OpenSpec.upto fnAuthsSpec)) fnAuthsUptoCard

/-- THE SECOND FORM's CARD OF 'laws.FnExactCheckAuth'. -/
def fnExactCheckAuthUptoCard : Claim7 := { stood := { row := fnExactCheckAuthUptoRow, standIns := [], harness := (true, "e29ec95039d271193f46a76a80a8f4ec714a298de59a8cc56bae6e3eb593ae42"), looks := true }, kinds := [], alts := [], laidByText := true, laidKinds := [.handle, .sentinel], laidTests := true, laidLooks := .later }
def FnExactCheckAuthUptoCardSaid : Prop := Claim7.holds Tryz.pinned (.plain (OpenSpec.upto fnExactCheckAuthSpec)) fnExactCheckAuthUptoCard
end Rows
end Go.Proofs.YtacdnednkglobaaGreatDoor
