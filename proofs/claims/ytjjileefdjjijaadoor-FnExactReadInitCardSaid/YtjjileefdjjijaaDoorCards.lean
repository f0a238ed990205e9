/-
  DERIVED. GIVEN WITH THE SEED: THE CARDS: each row of YtjjileefdjjijaaDoorRows.lean that lists a variable, with what it lists TIED to the program's text (the seventh form; the later family's looks); each row that meets fmt, with fmt's text TOLD by the authors' own Lean function (tested against real Go, not proved from fmt's source: count such statements apart). THE CARD IS WHAT COUNTS. Prove the row's statement (the work); the ties are given (YtjjileefdjjijaaDoorTie.lean); close each card by the builder's one call (the guide's Derived/Test/ToyasCard.lean, 'card_holds'). Laid BY PROGRAM, IN A SANDBOX (cutbox-door.mjs). By AI agents, Wed Nov 11 2026. No macro, syntax, notation, axiom, sorry.
-/
import Derived.Test.YtjjileefdjjijaaDoorRows
import GoSem.ClaimSeven
namespace Go.Proofs.YtjjileefdjjijaaDoor
namespace Rows

/-- THE TIED CARD OF 'laws.FnBodies'. -/
def fnBodiesCard : Claim7 := { stood := { row := fnBodiesRow, standIns := [], harness := (true, "e884739d2b06d4efc30f4dd8c4284b2bf9d4ae3b582cb1622b988e033282242a"), looks := true }, kinds := [], alts := [], laidByText := true, laidKinds := [.sentinel], laidTests := true, laidLooks := .later }
def FnBodiesCardSaid : Prop := Claim7.holds Tryd.pinned (.plain (OpenSpec.ofChange fnBodiesSpec)) fnBodiesCard

/-- THE TIED CARD OF 'laws.FnAskings'. -/
def fnAskingsCard : Claim7 := { stood := { row := fnAskingsRow, standIns := [], harness := (true, "e884739d2b06d4efc30f4dd8c4284b2bf9d4ae3b582cb1622b988e033282242a"), looks := true }, kinds := [], alts := [], laidByText := true, laidKinds := [.sentinel], laidTests := true, laidLooks := .later }
def FnAskingsCardSaid : Prop := Claim7.holds Tryd.pinned (.plain (OpenSpec.ofChange fnAskingsSpec)) fnAskingsCard

/-- THE TIED CARD OF 'laws.FnExactReadData'. -/
def fnExactReadDataCard : Claim7 := { stood := { row := fnExactReadDataRow, standIns := [], harness := (true, "e884739d2b06d4efc30f4dd8c4284b2bf9d4ae3b582cb1622b988e033282242a"), looks := true }, kinds := [], alts := [], laidByText := true, laidKinds := [.sentinel], laidTests := true, laidLooks := .later }
def FnExactReadDataCardSaid : Prop := Claim7.holds Tryd.pinned (.plain (OpenSpec.ofChange fnExactReadDataSpec)) fnExactReadDataCard

/-- THE TIED CARD OF 'laws.FnExactReadSack'. -/
def fnExactReadSackCard : Claim7 := { stood := { row := fnExactReadSackRow, standIns := [], harness := (true, "e884739d2b06d4efc30f4dd8c4284b2bf9d4ae3b582cb1622b988e033282242a"), looks := true }, kinds := [], alts := [], laidByText := true, laidKinds := [.sentinel], laidTests := true, laidLooks := .later }
def FnExactReadSackCardSaid : Prop := Claim7.holds Tryd.pinned (.plain (OpenSpec.ofChange fnExactReadSackSpec)) fnExactReadSackCard

/-- THE TIED CARD OF 'laws.FnExactReadInit'. -/
def fnExactReadInitCard : Claim7 := { stood := { row := fnExactReadInitRow, standIns := [], harness := (true, "e884739d2b06d4efc30f4dd8c4284b2bf9d4ae3b582cb1622b988e033282242a"), looks := true }, kinds := [], alts := [], laidByText := true, laidKinds := [.sentinel], laidTests := true, laidLooks := .later }
def FnExactReadInitCardSaid : Prop := Claim7.holds Tryd.pinned (.plain (OpenSpec.ofChange fnExactReadInitSpec)) fnExactReadInitCard

/-- THE TIED CARD OF 'laws.FnExactReadAsconf'. -/
def fnExactReadAsconfCard : Claim7 := { stood := { row := fnExactReadAsconfRow, standIns := [], harness := (true, "e884739d2b06d4efc30f4dd8c4284b2bf9d4ae3b582cb1622b988e033282242a"), looks := true }, kinds := [], alts := [], laidByText := true, laidKinds := [.sentinel], laidTests := true, laidLooks := .later }
def FnExactReadAsconfCardSaid : Prop := Claim7.holds Tryd.pinned (.plain (OpenSpec.ofChange fnExactReadAsconfSpec)) fnExactReadAsconfCard

/-- THE SECOND FORM's CARD OF 'laws.FnBodies'. -/
def fnBodiesUptoCard : Claim7 := { stood := { row := fnBodiesUptoRow, standIns := [], harness := (true, "e884739d2b06d4efc30f4dd8c4284b2bf9d4ae3b582cb1622b988e033282242a"), looks := true }, kinds := [], alts := [], laidByText := true, laidKinds := [.sentinel], laidTests := true, laidLooks := .later }
def FnBodiesUptoCardSaid : Prop := Claim7.holds Tryd.pinned (.plain (OpenSpec.upto fnBodiesSpec)) fnBodiesUptoCard

/-- THE SECOND FORM's CARD OF 'laws.FnAskings'. -/
def fnAskingsUptoCard : Claim7 := { stood := { row := fnAskingsUptoRow, standIns := [], harness := (true, "e884739d2b06d4efc30f4dd8c4284b2bf9d4ae3b582cb1622b988e033282242a"), looks := true }, kinds := [], alts := [], laidByText := true, laidKinds := [.sentinel], laidTests := true, laidLooks := .later }
def FnAskingsUptoCardSaid : Prop := Claim7.holds Tryd.pinned (.plain (OpenSpec.upto fnAskingsSpec)) fnAskingsUptoCard

/-- THE SECOND FORM's CARD OF 'laws.FnExactReadData'. -/
def fnExactReadDataUptoCard : Claim7 := { stood := { row := fnExactReadDataUptoRow, standIns := [], harness := (true, "e884739d2b06d4efc30f4dd8c4284b2bf9d4ae3b582cb1622b988e033282242a"), looks := true }, kinds := [], alts := [], laidByText := true, laidKinds := [.sentinel], laidTests := true, laidLooks := .later }
def FnExactReadDataUptoCardSaid : Prop := Claim7.holds Tryd.pinned (.plain (OpenSpec.upto fnExactReadDataSpec)) fnExactReadDataUptoCard

/-- THE SECOND FORM's CARD OF 'laws.FnExactReadSack'. -/
def fnExactReadSackUptoCard : Claim7 := { stood := { row := fnExactReadSackUptoRow, standIns := [], harness := (true, "e884739d2b06d4efc30f4dd8c4284b2bf9d4ae3b582cb1622b988e033282242a"), looks := true }, kinds := [], alts := [], laidByText := true, laidKinds := [.sentinel], laidTests := true, laidLooks := .later }
def FnExactReadSackUptoCardSaid : Prop := Claim7.holds Tryd.pinned (.plain (OpenSpec.upto fnExactReadSackSpec)) fnExactReadSackUptoCard

/-- THE SECOND FORM's CARD OF 'laws.FnExactReadInit'. -/
def fnExactReadInitUptoCard : Claim7 := { stood := { row := fnExactReadInitUptoRow, standIns := [], harness := (true, "e884739d2b06d4efc30f4dd8c4284b2bf9d4ae3b582cb1622b988e033282242a"), looks := true }, kinds := [], alts := [], laidByText := true, laidKinds := [.sentinel], laidTests := true, laidLooks := .later }
def FnExactReadInitUptoCardSaid : Prop := Claim7.holds Tryd.pinned (.plain (OpenSpec.upto fnExactReadInitSpec)) fnExactReadInitUptoCard

/-- THE SECOND FORM's CARD OF 'laws.FnExactReadAsconf'. -/
def fnExactReadAsconfUptoCard : Claim7 := { stood := { row := fnExactReadAsconfUptoRow, standIns := [], harness := (true, "e884739d2b06d4efc30f4dd8c4284b2bf9d4ae3b582cb1622b988e033282242a"), looks := true }, kinds := [], alts := [], laidByText := true, laidKinds := [.sentinel], laidTests := true, laidLooks := .later }
def FnExactReadAsconfUptoCardSaid : Prop := Claim7.holds Tryd.pinned (.plain (OpenSpec.upto fnExactReadAsconfSpec)) fnExactReadAsconfUptoCard
end Rows
end Go.Proofs.YtjjileefdjjijaaDoor
