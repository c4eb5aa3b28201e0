/-
  DERIVED. GIVEN WITH THE SEED: THE CARDS: each row of YtbimjgklldchfaaDoorRows.lean that lists a variable, with what it lists TIED to the program's text (the seventh form; the later family's looks); each row that meets fmt, with fmt's text TOLD by the authors' own Lean function (tested against real Go, not proved from fmt's source: count such statements apart). THE CARD IS WHAT COUNTS. Prove the row's statement (the work); the ties are given (YtbimjgklldchfaaDoorTie.lean); close each card by the builder's one call (the guide's Derived/Test/ToyasCard.lean, 'card_holds'). Laid BY PROGRAM, IN A SANDBOX (cutbox-door.mjs). By AI agents, Wed Nov 11 2026. No macro, syntax, notation, axiom, sorry.
-/
import Derived.Test.YtbimjgklldchfaaDoorRows
import GoSem.ClaimSeven
namespace Go.Proofs.YtbimjgklldchfaaDoor
namespace Rows

/-- THE TIED CARD OF 'interlocklaw02.DiagNew'. -/
def diagNewCard : Claim7 := { stood := { row := diagNewRow, standIns := [], harness := (true, "d394b95c2281e92c51b88e97eaf9350e5fe5d58b358955c1635cc42741849ff1"), looks := true }, kinds := [], alts := [], laidByText := true, laidKinds := [.data, .data, .data, .handle], laidTests := true, laidLooks := .later }
def DiagNewCardSaid : Prop := Claim7.holds Tryd.pinned (.plain (OpenSpec.ofChange diagNewSpec)) diagNewCard

/-- THE TIED CARD OF 'interlocklaw02.DiagIn'. -/
def diagInCard : Claim7 := { stood := { row := diagInRow, standIns := [], harness := (true, "d394b95c2281e92c51b88e97eaf9350e5fe5d58b358955c1635cc42741849ff1"), looks := true }, kinds := [], alts := [], laidByText := true, laidKinds := [.handle], laidTests := true, laidLooks := .later }
def DiagInCardSaid : Prop := Claim7.holds Tryd.pinned (.plain (OpenSpec.ofChange diagInSpec)) diagInCard

/-- THE TIED CARD OF 'interlocklaw02.DiagPlaces'. -/
def diagPlacesCard : Claim7 := { stood := { row := diagPlacesRow, standIns := [], harness := (true, "d394b95c2281e92c51b88e97eaf9350e5fe5d58b358955c1635cc42741849ff1"), looks := true }, kinds := [], alts := [], laidByText := true, laidKinds := [.handle], laidTests := true, laidLooks := .later }
def DiagPlacesCardSaid : Prop := Claim7.holds Tryd.pinned (.plain (OpenSpec.ofChange diagPlacesSpec)) diagPlacesCard

/-- THE SECOND FORM's CARD OF 'interlocklaw02.DiagNew'. -/
def diagNewUptoCard : Claim7 := { stood := { row := diagNewUptoRow, standIns := [], harness := (true, "d394b95c2281e92c51b88e97eaf9350e5fe5d58b358955c1635cc42741849ff1"), looks := true }, kinds := [], alts := [], laidByText := true, laidKinds := [.data, .data, .data, .handle], laidTests := true, laidLooks := .later }
def DiagNewUptoCardSaid : Prop := Claim7.holds Tryd.pinned (.plain (OpenSpec.upto diagNewSpec)) diagNewUptoCard

/-- THE SECOND FORM's CARD OF 'interlocklaw02.DiagIn'. -/
def diagInUptoCard : Claim7 := { stood := { row := diagInUptoRow, standIns := [], harness := (true, "d394b95c2281e92c51b88e97eaf9350e5fe5d58b358955c1635cc42741849ff1"), looks := true }, kinds := [], alts := [], laidByText := true, laidKinds := [.handle], laidTests := true, laidLooks := .later }
def DiagInUptoCardSaid : Prop := Claim7.holds Tryd.pinned (.plain (OpenSpec.upto diagInSpec)) diagInUptoCard

/-- THE SECOND FORM's CARD OF 'interlocklaw02.DiagPlaces'. -/
def diagPlacesUptoCard : Claim7 := { stood := { row := diagPlacesUptoRow, standIns := [], harness := (true, "d394b95c2281e92c51b88e97eaf9350e5fe5d58b358955c1635cc42741849ff1"), looks := true }, kinds := [], alts := [], laidByText := true, laidKinds := [.handle], laidTests := true, laidLooks := .later }
def DiagPlacesUptoCardSaid : Prop := Claim7.holds Tryd.pinned (.plain (OpenSpec.upto diagPlacesSpec)) diagPlacesUptoCard
end Rows
end Go.Proofs.YtbimjgklldchfaaDoor
