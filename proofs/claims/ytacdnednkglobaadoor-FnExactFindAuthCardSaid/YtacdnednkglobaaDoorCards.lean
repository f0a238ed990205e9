/-
  DERIVED. GIVEN WITH THE SEED: THE CARDS: each row of YtacdnednkglobaaDoorRows.lean that lists a variable, with what it lists TIED to the program's text (the seventh form; the later family's looks); each row that meets fmt, with fmt's text TOLD by the authors' own Lean function (tested against real Go, not proved from fmt's source: count such statements apart). THE CARD IS WHAT COUNTS. Prove the row's statement (the work); the ties are given (YtacdnednkglobaaDoorTie.lean); close each card by the builder's one call (the guide's Derived/Test/ToyasCard.lean, 'card_holds'). Laid BY PROGRAM, IN A SANDBOX (cutbox-door.mjs). By AI agents, Wed Nov 11 2026. No macro, syntax, notation, axiom, sorry.
-/
import Derived.Test.YtacdnednkglobaaDoorRows
import GoSem.ClaimSeven
namespace Go.Proofs.YtacdnednkglobaaDoor
namespace Rows

/-- THE TIED CARD OF 'laws.FnBodies'. -/
def fnBodiesCard : Claim7 := { stood := { row := fnBodiesRow, standIns := [], harness := (true, "578a2ac04b28ce0e45d886e019fb0e497772495aac7bc42b184bf6c9ef499582"), looks := true }, kinds := [], alts := [], laidByText := true, laidKinds := [.sentinel], laidTests := true, laidLooks := .later }
def FnBodiesCardSaid : Prop := Claim7.holds Tryd.pinned (.plain (OpenSpec.ofChange fnBodiesSpec)) fnBodiesCard

/-- THE TIED CARD OF 'laws.FnAskings'. -/
def fnAskingsCard : Claim7 := { stood := { row := fnAskingsRow, standIns := [], harness := (true, "578a2ac04b28ce0e45d886e019fb0e497772495aac7bc42b184bf6c9ef499582"), looks := true }, kinds := [], alts := [], laidByText := true, laidKinds := [.sentinel], laidTests := true, laidLooks := .later }
def FnAskingsCardSaid : Prop := Claim7.holds Tryd.pinned (.plain (OpenSpec.ofChange fnAskingsSpec)) fnAskingsCard

/-- THE TIED CARD OF 'laws.FnExactFindAuth'. -/
def fnExactFindAuthCard : Claim7 := { stood := { row := fnExactFindAuthRow, standIns := [], harness := (true, "578a2ac04b28ce0e45d886e019fb0e497772495aac7bc42b184bf6c9ef499582"), looks := true }, kinds := [], alts := [], laidByText := true, laidKinds := [.handle, .sentinel], laidTests := true, laidLooks := .later }
def FnExactFindAuthCardSaid : Prop := Claim7.holds Tryd.pinned (.plain (OpenSpec.ofChange fnExactFindAuthSpec)) fnExactFindAuthCard

/-- THE SECOND FORM's CARD OF 'laws.FnBodies'. -/
def fnBodiesUptoCard : Claim7 := { stood := { row := fnBodiesUptoRow, standIns := [], harness := (true, "578a2ac04b28ce0e45d886e019fb0e497772495aac7bc42b184bf6c9ef499582"), looks := true }, kinds := [], alts := [], laidByText := true, laidKinds := [.sentinel], laidTests := true, laidLooks := .later }
def FnBodiesUptoCardSaid : Prop := Claim7.holds Tryd.pinned (.plain (OpenSpec.upto fnBodiesSpec)) fnBodiesUptoCard

/-- THE SECOND FORM's CARD OF 'laws.FnAskings'. -/
def fnAskingsUptoCard : Claim7 := { stood := { row := fnAskingsUptoRow, standIns := [], harness := (true, "578a2ac04b28ce0e45d886e019fb0e497772495aac7bc42b184bf6c9ef499582"), looks := true }, kinds := [], alts := [], laidByText := true, laidKinds := [.sentinel], laidTests := true, laidLooks := .later }
def FnAskingsUptoCardSaid : Prop := Claim7.holds Tryd.pinned (.plain (OpenSpec.upto fnAskingsSpec)) fnAskingsUptoCard

/-- THE SECOND FORM's CARD OF 'laws.FnExactFindAuth'. -/
def fnExactFindAuthUptoCard : Claim7 := { stood := { row := fnExactFindAuthUptoRow, standIns := [], harness := (true, "578a2ac04b28ce0e45d886e019fb0e497772495aac7bc42b184bf6c9ef499582"), looks := true }, kinds := [], alts := [], laidByText := true, laidKinds := [.handle, .sentinel], laidTests := true, laidLooks := .later }
def FnExactFindAuthUptoCardSaid : Prop := Claim7.holds Tryd.pinned (.plain (OpenSpec.upto fnExactFindAuthSpec)) fnExactFindAuthUptoCard
end Rows
end Go.Proofs.YtacdnednkglobaaDoor
