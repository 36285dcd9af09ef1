/-
  DERIVED. GIVEN WITH THE SEED: THE CARDS: each row of YtkffjjlmoojffaaGreatDoorRows.lean that lists a variable, with what it lists TIED to the program's text (the seventh form; the later family's looks); each row that meets fmt, with fmt's text TOLD by the authors' own Lean function (tested against real Go, not proved from fmt's source: count such statements apart). THE CARD IS WHAT COUNTS. Prove the row's statement (the work); the ties are given (YtkffjjlmoojffaaGreatDoorTie.lean); close each card by the builder's one call (the guide's Derived/Test/ToyasCard.lean, 'card_holds'). Laid BY PROGRAM, IN A SANDBOX (cutbox-door.mjs). By AI agents, Wed Nov 11 2026. No macro, syntax, notation, axiom, sorry.
-/
import Derived.Test.YtkffjjlmoojffaaGreatDoorRows
import GoSem.ClaimSeven
namespace Go.Proofs.YtkffjjlmoojffaaGreatDoor
namespace Rows

/-- THE TIED CARD OF 'quillonlaw13.TopoReads'. -/
def topoReadsCard : Claim7 := { stood := { row := topoReadsRow, standIns := [], harness := (true, "bae80e9585cff8ae57c4e01808b3f94df961207d18e800be3b746634172d543e"), looks := true }, kinds := [], alts := [], laidByText := true, laidKinds := [.data, .data, .data, .data, .sentinel, .sentinel, .data, .pinned], laidTests := true, laidLooks := .later }
def TopoReadsCardSaid : Prop := Claim7.holds Tryz.pinned (.plain (OpenSpec.ofChange topoReadsSpec)) topoReadsCard

/-- THE TIED CARD OF 'quillonlaw13.TopoBack'. -/
def topoBackCard : Claim7 := { stood := { row := topoBackRow, standIns := [], harness := (true, "bae80e9585cff8ae57c4e01808b3f94df961207d18e800be3b746634172d543e"), looks := true }, kinds := [], alts := [], laidByText := true, laidKinds := [.data, .data, .data, .data, .sentinel, .sentinel, .data, .pinned], laidTests := true, laidLooks := .later }
def TopoBackCardSaid : Prop := Claim7.holds Tryz.pinned (.plain (OpenSpec.ofChange topoBackSpec)) topoBackCard

/-- THE SECOND FORM's CARD OF 'quillonlaw13.TopoReads'. -/
def topoReadsUptoCard : Claim7 := { stood := { row := topoReadsUptoRow, standIns := [], harness := (true, "bae80e9585cff8ae57c4e01808b3f94df961207d18e800be3b746634172d543e"), looks := true }, kinds := [], alts := [], laidByText := true, laidKinds := [.data, .data, .data, .data, .sentinel, .sentinel, .data, .pinned], laidTests := true, laidLooks := .later }
def TopoReadsUptoCardSaid : Prop := Claim7.holds Tryz.pinned (.plain (OpenSpec.upto topoReadsSpec)) topoReadsUptoCard

/-- THE SECOND FORM's CARD OF 'quillonlaw13.TopoBack'. -/
def topoBackUptoCard : Claim7 := { stood := { row := topoBackUptoRow, standIns := [], harness := (true, "bae80e9585cff8ae57c4e01808b3f94df961207d18e800be3b746634172d543e"), looks := true }, kinds := [], alts := [], laidByText := true, laidKinds := [.data, .data, .data, .data, .sentinel, .sentinel, .data, .pinned], laidTests := true, laidLooks := .later }
def TopoBackUptoCardSaid : Prop := Claim7.holds Tryz.pinned (.plain (OpenSpec.upto topoBackSpec)) topoBackUptoCard
end Rows
end Go.Proofs.YtkffjjlmoojffaaGreatDoor
