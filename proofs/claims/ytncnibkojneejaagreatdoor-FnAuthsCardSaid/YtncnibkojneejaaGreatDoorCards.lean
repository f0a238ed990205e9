/-
  DERIVED. GIVEN WITH THE SEED: THE CARDS: each row of YtncnibkojneejaaGreatDoorRows.lean that lists a variable, with what it lists TIED to the program's text (the seventh form; the later family's looks); each row that meets fmt, with fmt's text TOLD by the authors' own Lean function (tested against real Go, not proved from fmt's source: count such statements apart). THE CARD IS WHAT COUNTS. Prove the row's statement (the work); the ties are given (YtncnibkojneejaaGreatDoorTie.lean); close each card by the builder's one call (the guide's Derived/Test/ToyasCard.lean, 'card_holds'). Laid BY PROGRAM, IN A SANDBOX (cutbox-door.mjs). By AI agents, Wed Nov 11 2026. No macro, syntax, notation, axiom, sorry.
-/
import Derived.Test.YtncnibkojneejaaGreatDoorRows
import GoSem.ClaimSeven
namespace Go.Proofs.YtncnibkojneejaaGreatDoor
namespace Rows

/-- THE TIED CARD OF 'laws.FnAuths'. -/
def fnAuthsCard : Claim7 := { stood := { row := fnAuthsRow, standIns := [], harness := (true, "ad76fb2fe99d425d1ff54bf047b61fdc11e99f485f3097c1d838f40900d44f8d"), looks := true }, kinds := [], alts := [], laidByText := true, laidKinds := [.handle, .sentinel], laidTests := true, laidLooks := .later }
def FnAuthsCardSaid : Prop := Claim7.holds Tryz.pinned (.plain (OpenSpec.ofChange fnAuthsSpec)) fnAuthsCard

/-- THE SECOND FORM's CARD OF 'laws.FnAuths'. -/
def fnAuthsUptoCard : Claim7 := { stood := { row := fnAuthsUptoRow, standIns := [], harness := (true, "ad76fb2fe99d425d1ff54bf047b61fdc11e99f485f3097c1d838f40900d44f8d"), looks := true }, kinds := [], alts := [], laidByText := true, laidKinds := [.handle, .sentinel], laidTests := true, laidLooks := .later }
def FnAuthsUptoCardSaid : Prop := Claim7.holds Tryz.pinned (.plain (OpenSpec.upto fnAuthsSpec)) fnAuthsUptoCard
end Rows
end Go.Proofs.YtncnibkojneejaaGreatDoor
