/-
  DERIVED. GIVEN WITH THE SEED: THE CARDS: each row of YtpemghcafbedeaaGreatDoorRows.lean that lists a variable, with what it lists TIED to the program's text (the seventh form; the later family's looks); each row that meets fmt, with fmt's text TOLD by the authors' own Lean function (tested against real Go, not proved from fmt's source: count such statements apart). THE CARD IS WHAT COUNTS. Prove the row's statement (the work); the ties are given (YtpemghcafbedeaaGreatDoorTie.lean); close each card by the builder's one call (the guide's Derived/Test/ToyasCard.lean, 'card_holds'). Laid BY PROGRAM, IN A SANDBOX (cutbox-door.mjs). By AI agents, Wed Nov 11 2026. No macro, syntax, notation, axiom, sorry.
-/
import Derived.Test.YtpemghcafbedeaaGreatDoorRows
import GoSem.ClaimSeven
namespace Go.Proofs.YtpemghcafbedeaaGreatDoor
namespace Rows

/-- THE TIED CARD OF 'interlocklaw05.ParseAny'. -/
def parseAnyCard : Claim7 := { stood := { row := parseAnyRow, standIns := [], harness := (true, "d7c6d910d60933be59077ae31bd2718c14dc23d13a5eea6dc026d1883b5df40e"), looks := true }, kinds := [], alts := [], laidByText := true, laidKinds := [.handle], laidTests := true, laidLooks := .later }
def ParseAnyCardSaid : Prop := Claim7.holds Tryz.pinned (.plain (OpenSpec.ofChange parseAnySpec)) parseAnyCard

/-- THE TIED CARD OF 'interlocklaw05.ParseBlanks'. -/
def parseBlanksCard : Claim7 := { stood := { row := parseBlanksRow, standIns := [], harness := (true, "d7c6d910d60933be59077ae31bd2718c14dc23d13a5eea6dc026d1883b5df40e"), looks := true }, kinds := [], alts := [], laidByText := true, laidKinds := [.handle], laidTests := true, laidLooks := .later }
def ParseBlanksCardSaid : Prop := Claim7.holds Tryz.pinned (.plain (OpenSpec.ofChange parseBlanksSpec)) parseBlanksCard

/-- THE TIED CARD OF 'interlocklaw05.ParseBegins'. -/
def parseBeginsCard : Claim7 := { stood := { row := parseBeginsRow, standIns := [], harness := (true, "d7c6d910d60933be59077ae31bd2718c14dc23d13a5eea6dc026d1883b5df40e"), looks := true }, kinds := [], alts := [], laidByText := true, laidKinds := [.handle], laidTests := true, laidLooks := .later }
def ParseBeginsCardSaid : Prop := Claim7.holds Tryz.pinned (.plain (OpenSpec.ofChange parseBeginsSpec)) parseBeginsCard

/-- THE TIED CARD OF 'interlocklaw05.ParseKnown'. -/
def parseKnownCard : Claim7 := { stood := { row := parseKnownRow, standIns := [], harness := (true, "d7c6d910d60933be59077ae31bd2718c14dc23d13a5eea6dc026d1883b5df40e"), looks := true }, kinds := [], alts := [], laidByText := true, laidKinds := [.handle], laidTests := true, laidLooks := .later }
def ParseKnownCardSaid : Prop := Claim7.holds Tryz.pinned (.plain (OpenSpec.ofChange parseKnownSpec)) parseKnownCard

/-- THE TIED CARD OF 'interlocklaw05.ParseJoined'. -/
def parseJoinedCard : Claim7 := { stood := { row := parseJoinedRow, standIns := [], harness := (true, "d7c6d910d60933be59077ae31bd2718c14dc23d13a5eea6dc026d1883b5df40e"), looks := true }, kinds := [], alts := [], laidByText := true, laidKinds := [.handle], laidTests := true, laidLooks := .later }
def ParseJoinedCardSaid : Prop := Claim7.holds Tryz.pinned (.plain (OpenSpec.ofChange parseJoinedSpec)) parseJoinedCard

/-- THE TIED CARD OF 'interlocklaw06.PrintAny'. -/
def printAnyCard : Claim7 := { stood := { row := printAnyRow, standIns := [], harness := (true, "d7c6d910d60933be59077ae31bd2718c14dc23d13a5eea6dc026d1883b5df40e"), looks := true }, kinds := [], alts := [], laidByText := true, laidKinds := [.data, .data, .data, .handle], laidTests := true, laidLooks := .later }
def PrintAnyCardSaid : Prop := Claim7.holds Tryz.pinned (.plain (OpenSpec.ofChange printAnySpec)) printAnyCard

/-- THE TIED CARD OF 'interlocklaw06.PrintParsed'. -/
def printParsedCard : Claim7 := { stood := { row := printParsedRow, standIns := [], harness := (true, "d7c6d910d60933be59077ae31bd2718c14dc23d13a5eea6dc026d1883b5df40e"), looks := true }, kinds := [], alts := [], laidByText := true, laidKinds := [.data, .data, .data, .handle], laidTests := true, laidLooks := .later }
def PrintParsedCardSaid : Prop := Claim7.holds Tryz.pinned (.plain (OpenSpec.ofChange printParsedSpec)) printParsedCard

/-- THE TIED CARD OF 'interlocklaw06.PrintSource'. -/
def printSourceCard : Claim7 := { stood := { row := printSourceRow, standIns := [], harness := (true, "d7c6d910d60933be59077ae31bd2718c14dc23d13a5eea6dc026d1883b5df40e"), looks := true }, kinds := [], alts := [], laidByText := true, laidKinds := [.data, .data, .data], laidTests := true, laidLooks := .later }
def PrintSourceCardSaid : Prop := Claim7.holds Tryz.pinned (.plain (OpenSpec.ofChange printSourceSpec)) printSourceCard

/-- THE TIED CARD OF 'interlocklaw06.PrintExprs'. -/
def printExprsCard : Claim7 := { stood := { row := printExprsRow, standIns := [], harness := (true, "d7c6d910d60933be59077ae31bd2718c14dc23d13a5eea6dc026d1883b5df40e"), looks := true }, kinds := [], alts := [], laidByText := true, laidKinds := [.data, .data, .data], laidTests := true, laidLooks := .later }
def PrintExprsCardSaid : Prop := Claim7.holds Tryz.pinned (.plain (OpenSpec.ofChange printExprsSpec)) printExprsCard

/-- THE TIED CARD OF 'interlocklaw06.PrintKnown'. -/
def printKnownCard : Claim7 := { stood := { row := printKnownRow, standIns := [], harness := (true, "d7c6d910d60933be59077ae31bd2718c14dc23d13a5eea6dc026d1883b5df40e"), looks := true }, kinds := [], alts := [], laidByText := true, laidKinds := [.data, .data, .data, .handle], laidTests := true, laidLooks := .later }
def PrintKnownCardSaid : Prop := Claim7.holds Tryz.pinned (.plain (OpenSpec.ofChange printKnownSpec)) printKnownCard

/-- THE SECOND FORM's CARD OF 'interlocklaw05.ParseAny'. -/
def parseAnyUptoCard : Claim7 := { stood := { row := parseAnyUptoRow, standIns := [], harness := (true, "d7c6d910d60933be59077ae31bd2718c14dc23d13a5eea6dc026d1883b5df40e"), looks := true }, kinds := [], alts := [], laidByText := true, laidKinds := [.handle], laidTests := true, laidLooks := .later }
def ParseAnyUptoCardSaid : Prop := Claim7.holds Tryz.pinned (.plain (OpenSpec.upto parseAnySpec)) parseAnyUptoCard

/-- THE SECOND FORM's CARD OF 'interlocklaw05.ParseBlanks'. -/
def parseBlanksUptoCard : Claim7 := { stood := { row := parseBlanksUptoRow, standIns := [], harness := (true, "d7c6d910d60933be59077ae31bd2718c14dc23d13a5eea6dc026d1883b5df40e"), looks := true }, kinds := [], alts := [], laidByText := true, laidKinds := [.handle], laidTests := true, laidLooks := .later }
def ParseBlanksUptoCardSaid : Prop := Claim7.holds Tryz.pinned (.plain (OpenSpec.upto parseBlanksSpec)) parseBlanksUptoCard

/-- THE SECOND FORM's CARD OF 'interlocklaw05.ParseBegins'. -/
def parseBeginsUptoCard : Claim7 := { stood := { row := parseBeginsUptoRow, standIns := [], harness := (true, "d7c6d910d60933be59077ae31bd2718c14dc23d13a5eea6dc026d1883b5df40e"), looks := true }, kinds := [], alts := [], laidByText := true, laidKinds := [.handle], laidTests := true, laidLooks := .later }
def ParseBeginsUptoCardSaid : Prop := Claim7.holds Tryz.pinned (.plain (OpenSpec.upto parseBeginsSpec)) parseBeginsUptoCard

/-- THE SECOND FORM's CARD OF 'interlocklaw05.ParseKnown'. -/
def parseKnownUptoCard : Claim7 := { stood := { row := parseKnownUptoRow, standIns := [], harness := (true, "d7c6d910d60933be59077ae31bd2718c14dc23d13a5eea6dc026d1883b5df40e"), looks := true }, kinds := [], alts := [], laidByText := true, laidKinds := [.handle], laidTests := true, laidLooks := .later }
def ParseKnownUptoCardSaid : Prop := Claim7.holds Tryz.pinned (.plain (OpenSpec.upto parseKnownSpec)) parseKnownUptoCard

/-- THE SECOND FORM's CARD OF 'interlocklaw05.ParseJoined'. -/
def parseJoinedUptoCard : Claim7 := { stood := { row := parseJoinedUptoRow, standIns := [], harness := (true, "d7c6d910d60933be59077ae31bd2718c14dc23d13a5eea6dc026d1883b5df40e"), looks := true }, kinds := [], alts := [], laidByText := true, laidKinds := [.handle], laidTests := true, laidLooks := .later }
def ParseJoinedUptoCardSaid : Prop := Claim7.holds Tryz.pinned (.plain (OpenSpec.upto parseJoinedSpec)) parseJoinedUptoCard

/-- THE SECOND FORM's CARD OF 'interlocklaw06.PrintAny'. -/
def printAnyUptoCard : Claim7 := { stood := { row := printAnyUptoRow, standIns := [], harness := (true, "d7c6d910d60933be59077ae31bd2718c14dc23d13a5eea6dc026d1883b5df40e"), looks := true }, kinds := [], alts := [], laidByText := true, laidKinds := [.data, .data, .data, .handle], laidTests := true, laidLooks := .later }
def PrintAnyUptoCardSaid : Prop := Claim7.holds Tryz.pinned (.plain (OpenSpec.upto printAnySpec)) printAnyUptoCard

/-- THE SECOND FORM's CARD OF 'interlocklaw06.PrintParsed'. -/
def printParsedUptoCard : Claim7 := { stood := { row := printParsedUptoRow, standIns := [], harness := (true, "d7c6d910d60933be59077ae31bd2718c14dc23d13a5eea6dc026d1883b5df40e"), looks := true }, kinds := [], alts := [], laidByText := true, laidKinds := [.data, .data, .data, .handle], laidTests := true, laidLooks := .later }
def PrintParsedUptoCardSaid : Prop := Claim7.holds Tryz.pinned (.plain (OpenSpec.upto printParsedSpec)) printParsedUptoCard

/-- THE SECOND FORM's CARD OF 'interlocklaw06.PrintSource'. -/
def printSourceUptoCard : Claim7 := { stood := { row := printSourceUptoRow, standIns := [], harness := (true, "d7c6d910d60933be59077ae31bd2718c14dc23d13a5eea6dc026d1883b5df40e"), looks := true }, kinds := [], alts := [], laidByText := true, laidKinds := [.data, .data, .data], laidTests := true, laidLooks := .later }
def PrintSourceUptoCardSaid : Prop := Claim7.holds Tryz.pinned (.plain (OpenSpec.upto printSourceSpec)) printSourceUptoCard

/-- THE SECOND FORM's CARD OF 'interlocklaw06.PrintExprs'. -/
def printExprsUptoCard : Claim7 := { stood := { row := printExprsUptoRow, standIns := [], harness := (true, "d7c6d910d60933be59077ae31bd2718c14dc23d13a5eea6dc026d1883b5df40e"), looks := true }, kinds := [], alts := [], laidByText := true, laidKinds := [.data, .data, .data], laidTests := true, laidLooks := .later }
def PrintExprsUptoCardSaid : Prop := Claim7.holds Tryz.pinned (.plain (OpenSpec.upto printExprsSpec)) printExprsUptoCard

/-- THE SECOND FORM's CARD OF 'interlocklaw06.PrintKnown'. -/
def printKnownUptoCard : Claim7 := { stood := { row := printKnownUptoRow, standIns := [], harness := (true, "d7c6d910d60933be59077ae31bd2718c14dc23d13a5eea6dc026d1883b5df40e"), looks := true }, kinds := [], alts := [], laidByText := true, laidKinds := [.data, .data, .data, .handle], laidTests := true, laidLooks := .later }
def PrintKnownUptoCardSaid : Prop := Claim7.holds Tryz.pinned (.plain (OpenSpec.upto printKnownSpec)) printKnownUptoCard
end Rows
end Go.Proofs.YtpemghcafbedeaaGreatDoor
