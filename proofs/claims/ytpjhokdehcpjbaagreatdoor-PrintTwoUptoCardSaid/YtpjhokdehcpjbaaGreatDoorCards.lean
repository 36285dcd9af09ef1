/-
  DERIVED. GIVEN WITH THE SEED: THE CARDS: each row of YtpjhokdehcpjbaaGreatDoorRows.lean that lists a variable, with what it lists TIED to the program's text (the seventh form; the later family's looks); each row that meets fmt, with fmt's text TOLD by the authors' own Lean function (tested against real Go, not proved from fmt's source: count such statements apart). THE CARD IS WHAT COUNTS. Prove the row's statement (the work); the ties are given (YtpjhokdehcpjbaaGreatDoorTie.lean); close each card by the builder's one call (the guide's Derived/Test/ToyasCard.lean, 'card_holds'). Laid BY PROGRAM, IN A SANDBOX (cutbox-door.mjs). By AI agents, Wed Nov 11 2026. No macro, syntax, notation, axiom, sorry.
-/
import Derived.Test.YtpjhokdehcpjbaaGreatDoorRows
import GoSem.ClaimSeven
namespace Go.Proofs.YtpjhokdehcpjbaaGreatDoor
namespace Rows

/-- THE TIED CARD OF 'quillonlaw05.PrintTexts'. -/
def printTextsCard : Claim7 := { stood := { row := printTextsRow, standIns := [], harness := (true, "24b1b2198c4d2d49f1662d385be19eafd835d62db0aca27b0dfedee4b376acec"), looks := true }, kinds := [], alts := [], laidByText := true, laidKinds := [.data, .data, .data], laidTests := true, laidLooks := .later }
def PrintTextsCardSaid : Prop := Claim7.holds Tryz.pinned (.plain (OpenSpec.ofChange printTextsSpec)) printTextsCard

/-- THE TIED CARD OF 'quillonlaw05.PrintTwo'. -/
def printTwoCard : Claim7 := { stood := { row := printTwoRow, standIns := [], harness := (true, "24b1b2198c4d2d49f1662d385be19eafd835d62db0aca27b0dfedee4b376acec"), looks := true }, kinds := [], alts := [], laidByText := true, laidKinds := [.data, .data, .data], laidTests := true, laidLooks := .later }
def PrintTwoCardSaid : Prop := Claim7.holds Tryz.pinned (.plain (OpenSpec.ofChange printTwoSpec)) printTwoCard

/-- THE TIED CARD OF 'quillonlaw06.ParseBack'. -/
def parseBackCard : Claim7 := { stood := { row := parseBackRow, standIns := [], harness := (true, "24b1b2198c4d2d49f1662d385be19eafd835d62db0aca27b0dfedee4b376acec"), looks := true }, kinds := [], alts := [], laidByText := true, laidKinds := [.data, .data, .data, .data, .sentinel, .sentinel, .data, .pinned], laidTests := true, laidLooks := .later }
def ParseBackCardSaid : Prop := Claim7.holds Tryz.pinned (.plain (OpenSpec.ofChange parseBackSpec)) parseBackCard

/-- THE TIED CARD OF 'quillonlaw06.ParseMay'. -/
def parseMayCard : Claim7 := { stood := { row := parseMayRow, standIns := [], harness := (true, "24b1b2198c4d2d49f1662d385be19eafd835d62db0aca27b0dfedee4b376acec"), looks := true }, kinds := [], alts := [], laidByText := true, laidKinds := [.data, .data, .data, .data, .sentinel, .sentinel, .data, .pinned], laidTests := true, laidLooks := .later }
def ParseMayCardSaid : Prop := Claim7.holds Tryz.pinned (.plain (OpenSpec.ofChange parseMaySpec)) parseMayCard

/-- THE SECOND FORM's CARD OF 'quillonlaw05.PrintTexts'. -/
def printTextsUptoCard : Claim7 := { stood := { row := printTextsUptoRow, standIns := [], harness := (true, "24b1b2198c4d2d49f1662d385be19eafd835d62db0aca27b0dfedee4b376acec"), looks := true }, kinds := [], alts := [], laidByText := true, laidKinds := [.data, .data, .data], laidTests := true, laidLooks := .later }
def PrintTextsUptoCardSaid : Prop := Claim7.holds Tryz.pinned (.plain (OpenSpec.upto printTextsSpec)) printTextsUptoCard

/-- THE SECOND FORM's CARD OF 'quillonlaw05.PrintTwo'. -/
def printTwoUptoCard : Claim7 := { stood := { row := printTwoUptoRow, standIns := [], harness := (true, "24b1b2198c4d2d49f1662d385be19eafd835d62db0aca27b0dfedee4b376acec"), looks := true }, kinds := [], alts := [], laidByText := true, laidKinds := [.data, .data, .data], laidTests := true, laidLooks := .later }
def PrintTwoUptoCardSaid : Prop := Claim7.holds Tryz.pinned (.plain (OpenSpec.upto printTwoSpec)) printTwoUptoCard

/-- THE SECOND FORM's CARD OF 'quillonlaw06.ParseBack'. -/
def parseBackUptoCard : Claim7 := { stood := { row := parseBackUptoRow, standIns := [], harness := (true, "24b1b2198c4d2d49f1662d385be19eafd835d62db0aca27b0dfedee4b376acec"), looks := true }, kinds := [], alts := [], laidByText := true, laidKinds := [.data, .data, .data, .data, .sentinel, .sentinel, .data, .pinned], laidTests := true, laidLooks := .later }
def ParseBackUptoCardSaid : Prop := Claim7.holds Tryz.pinned (.plain (OpenSpec.upto parseBackSpec)) parseBackUptoCard

/-- THE SECOND FORM's CARD OF 'quillonlaw06.ParseMay'. -/
def parseMayUptoCard : Claim7 := { stood := { row := parseMayUptoRow, standIns := [], harness := (true, "24b1b2198c4d2d49f1662d385be19eafd835d62db0aca27b0dfedee4b376acec"), looks := true }, kinds := [], alts := [], laidByText := true, laidKinds := [.data, .data, .data, .data, .sentinel, .sentinel, .data, .pinned], laidTests := true, laidLooks := .later }
def ParseMayUptoCardSaid : Prop := Claim7.holds Tryz.pinned (.plain (OpenSpec.upto parseMaySpec)) parseMayUptoCard
end Rows
end Go.Proofs.YtpjhokdehcpjbaaGreatDoor
