/-
  DERIVED. GIVEN WITH THE SEED: THE CARDS: each row of YtiflieaemgamkaaGreatDoorRows.lean that lists a variable, with what it lists TIED to the program's text (the seventh form; the later family's looks); each row that meets fmt, with fmt's text TOLD by the authors' own Lean function (tested against real Go, not proved from fmt's source: count such statements apart). THE CARD IS WHAT COUNTS. Prove the row's statement (the work); the ties are given (YtiflieaemgamkaaGreatDoorTie.lean); close each card by the builder's one call (the guide's Derived/Test/ToyasCard.lean, 'card_holds'). Laid BY PROGRAM, IN A SANDBOX (cutbox-door.mjs). By AI agents, Wed Nov 11 2026. No macro, syntax, notation, axiom, sorry.
-/
import Derived.Test.YtiflieaemgamkaaGreatDoorRows
import GoSem.ClaimSeven
namespace Go.Proofs.YtiflieaemgamkaaGreatDoor
namespace Rows

/-- THE TIED CARD OF 'pleachlaw38.JournalPlays'. -/
def journalPlaysCard : Claim7 := { stood := { row := journalPlaysRow, standIns := [], harness := (true, "c0d3fff1b322fa93e96728d41f9f50449cbff0db07af0b31d4d74ccb3539a0af"), looks := false }, kinds := [], alts := [], laidByText := true, laidKinds := [.data, .data, .pinned], laidTests := true, laidLooks := .later }
def JournalPlaysCardSaid : Prop := Claim7.holds Tryz.pinned (.plain (OpenSpec.ofChange journalPlaysSpec)) journalPlaysCard

/-- THE TIED CARD OF 'pleachlaw38.JournalAll'. -/
def journalAllCard : Claim7 := { stood := { row := journalAllRow, standIns := [], harness := (true, "c0d3fff1b322fa93e96728d41f9f50449cbff0db07af0b31d4d74ccb3539a0af"), looks := false }, kinds := [], alts := [], laidByText := true, laidKinds := [.data, .data, .pinned], laidTests := true, laidLooks := .later }
def JournalAllCardSaid : Prop := Claim7.holds Tryz.pinned (.plain (OpenSpec.ofChange journalAllSpec)) journalAllCard

/-- THE TIED CARD OF 'pleachlaw35.CommitKnots'. -/
def commitKnotsCard : Claim7 := { stood := { row := commitKnotsRow, standIns := [], harness := (true, "c0d3fff1b322fa93e96728d41f9f50449cbff0db07af0b31d4d74ccb3539a0af"), looks := false }, kinds := [], alts := [], laidByText := true, laidKinds := [.data], laidTests := true, laidLooks := .later }
def CommitKnotsCardSaid : Prop := Claim7.holds Tryz.pinned (.plain (OpenSpec.ofChange commitKnotsSpec)) commitKnotsCard

/-- THE SECOND FORM's CARD OF 'pleachlaw38.JournalPlays'. -/
def journalPlaysUptoCard : Claim7 := { stood := { row := journalPlaysUptoRow, standIns := [], harness := (true, "c0d3fff1b322fa93e96728d41f9f50449cbff0db07af0b31d4d74ccb3539a0af"), looks := false }, kinds := [], alts := [], laidByText := true, laidKinds := [.data, .data, .pinned], laidTests := true, laidLooks := .later }
def JournalPlaysUptoCardSaid : Prop := Claim7.holds Tryz.pinned (.plain (OpenSpec.upto journalPlaysSpec)) journalPlaysUptoCard

/-- THE SECOND FORM's CARD OF 'pleachlaw38.JournalAll'. -/
def journalAllUptoCard : Claim7 := { stood := { row := journalAllUptoRow, standIns := [], harness := (true, "c0d3fff1b322fa93e96728d41f9f50449cbff0db07af0b31d4d74ccb3539a0af"), looks := false }, kinds := [], alts := [], laidByText := true, laidKinds := [.data, .data, .pinned], laidTests := true, laidLooks := .later }
def JournalAllUptoCardSaid : Prop := Claim7.holds Tryz.pinned (.plain (OpenSpec.upto journalAllSpec)) journalAllUptoCard

/-- THE SECOND FORM's CARD OF 'pleachlaw35.CommitKnots'. -/
def commitKnotsUptoCard : Claim7 := { stood := { row := commitKnotsUptoRow, standIns := [], harness := (true, "c0d3fff1b322fa93e96728d41f9f50449cbff0db07af0b31d4d74ccb3539a0af"), looks := false }, kinds := [], alts := [], laidByText := true, laidKinds := [.data], laidTests := true, laidLooks := .later }
def CommitKnotsUptoCardSaid : Prop := Claim7.holds Tryz.pinned (.plain (OpenSpec.upto commitKnotsSpec)) commitKnotsUptoCard
end Rows
end Go.Proofs.YtiflieaemgamkaaGreatDoor
