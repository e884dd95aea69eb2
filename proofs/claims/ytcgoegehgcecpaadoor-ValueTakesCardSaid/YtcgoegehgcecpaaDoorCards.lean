/-
  DERIVED. GIVEN WITH THE SEED: THE CARDS: each row of YtcgoegehgcecpaaDoorRows.lean that lists a variable, with what it lists TIED to the program's text (the seventh form; the later family's looks); each row that meets fmt, with fmt's text TOLD by the authors' own Lean function (tested against real Go, not proved from fmt's source: count such statements apart). THE CARD IS WHAT COUNTS. Prove the row's statement (the work); the ties are given (YtcgoegehgcecpaaDoorTie.lean); close each card by the builder's one call (the guide's Derived/Test/ToyasCard.lean, 'card_holds'). Laid BY PROGRAM, IN A SANDBOX (cutbox-door.mjs). By AI agents, Wed Nov 11 2026. No macro, syntax, notation, axiom, sorry.
-/
import Derived.Test.YtcgoegehgcecpaaDoorRows
import GoSem.ClaimSeven
namespace Go.Proofs.YtcgoegehgcecpaaDoor
namespace Rows

/-- THE TIED CARD OF 'pleachlaw06.ValueTakes'. -/
def valueTakesCard : Claim7 := { stood := { row := valueTakesRow, standIns := [], harness := (true, "d705a931b4fc3ed8cd28812bfa5fcd8fb909d88a37f0708cc234cda7828acdf2"), looks := true }, kinds := [], alts := [], laidByText := true, laidKinds := [.data, .data, .data], laidTests := true, laidLooks := .later }
def ValueTakesCardSaid : Prop := Claim7.holds Tryd.pinned (.plain (OpenSpec.ofChange valueTakesSpec)) valueTakesCard

/-- THE TIED CARD OF 'pleachlaw06.ValueParses'. -/
def valueParsesCard : Claim7 := { stood := { row := valueParsesRow, standIns := [], harness := (true, "d705a931b4fc3ed8cd28812bfa5fcd8fb909d88a37f0708cc234cda7828acdf2"), looks := true }, kinds := [], alts := [], laidByText := true, laidKinds := [.data, .data, .data, .sentinel, .sentinel], laidTests := true, laidLooks := .later }
def ValueParsesCardSaid : Prop := Claim7.holds Tryd.pinned (.plain (OpenSpec.ofChange valueParsesSpec)) valueParsesCard

/-- THE TIED CARD OF 'pleachlaw06.ValueBack'. -/
def valueBackCard : Claim7 := { stood := { row := valueBackRow, standIns := [], harness := (true, "d705a931b4fc3ed8cd28812bfa5fcd8fb909d88a37f0708cc234cda7828acdf2"), looks := true }, kinds := [], alts := [], laidByText := true, laidKinds := [.data, .data, .data, .sentinel, .sentinel], laidTests := true, laidLooks := .later }
def ValueBackCardSaid : Prop := Claim7.holds Tryd.pinned (.plain (OpenSpec.ofChange valueBackSpec)) valueBackCard

/-- THE TIED CARD OF 'pleachlaw08.SeatPuts'. -/
def seatPutsCard : Claim7 := { stood := { row := seatPutsRow, standIns := [], harness := (true, "d705a931b4fc3ed8cd28812bfa5fcd8fb909d88a37f0708cc234cda7828acdf2"), looks := true }, kinds := [], alts := [], laidByText := true, laidKinds := [.data, .data, .pinned], laidTests := true, laidLooks := .later }
def SeatPutsCardSaid : Prop := Claim7.holds Tryd.pinned (.plain (OpenSpec.ofChange seatPutsSpec)) seatPutsCard

/-- THE TIED CARD OF 'pleachlaw08.SeatTakes'. -/
def seatTakesCard : Claim7 := { stood := { row := seatTakesRow, standIns := [], harness := (true, "d705a931b4fc3ed8cd28812bfa5fcd8fb909d88a37f0708cc234cda7828acdf2"), looks := true }, kinds := [], alts := [], laidByText := true, laidKinds := [.data, .data, .pinned], laidTests := true, laidLooks := .later }
def SeatTakesCardSaid : Prop := Claim7.holds Tryd.pinned (.plain (OpenSpec.ofChange seatTakesSpec)) seatTakesCard

/-- THE TIED CARD OF 'pleachlaw08.SeatFull'. -/
def seatFullCard : Claim7 := { stood := { row := seatFullRow, standIns := [], harness := (true, "d705a931b4fc3ed8cd28812bfa5fcd8fb909d88a37f0708cc234cda7828acdf2"), looks := true }, kinds := [], alts := [], laidByText := true, laidKinds := [.data, .data, .pinned], laidTests := true, laidLooks := .later }
def SeatFullCardSaid : Prop := Claim7.holds Tryd.pinned (.plain (OpenSpec.ofChange seatFullSpec)) seatFullCard

/-- THE TIED CARD OF 'pleachlaw08.SeatLater'. -/
def seatLaterCard : Claim7 := { stood := { row := seatLaterRow, standIns := [], harness := (true, "d705a931b4fc3ed8cd28812bfa5fcd8fb909d88a37f0708cc234cda7828acdf2"), looks := true }, kinds := [], alts := [], laidByText := true, laidKinds := [.data, .data, .pinned], laidTests := true, laidLooks := .later }
def SeatLaterCardSaid : Prop := Claim7.holds Tryd.pinned (.plain (OpenSpec.ofChange seatLaterSpec)) seatLaterCard

/-- THE TIED CARD OF 'pleachlaw08.SeatBack'. -/
def seatBackCard : Claim7 := { stood := { row := seatBackRow, standIns := [], harness := (true, "d705a931b4fc3ed8cd28812bfa5fcd8fb909d88a37f0708cc234cda7828acdf2"), looks := true }, kinds := [], alts := [], laidByText := true, laidKinds := [.data, .data, .pinned], laidTests := true, laidLooks := .later }
def SeatBackCardSaid : Prop := Claim7.holds Tryd.pinned (.plain (OpenSpec.ofChange seatBackSpec)) seatBackCard

/-- THE TIED CARD OF 'pleachlaw10.EntryPuts'. -/
def entryPutsCard : Claim7 := { stood := { row := entryPutsRow, standIns := [], harness := (true, "d705a931b4fc3ed8cd28812bfa5fcd8fb909d88a37f0708cc234cda7828acdf2"), looks := true }, kinds := [], alts := [], laidByText := true, laidKinds := [.data, .data, .pinned], laidTests := true, laidLooks := .later }
def EntryPutsCardSaid : Prop := Claim7.holds Tryd.pinned (.plain (OpenSpec.ofChange entryPutsSpec)) entryPutsCard

/-- THE TIED CARD OF 'pleachlaw10.EntryTakes'. -/
def entryTakesCard : Claim7 := { stood := { row := entryTakesRow, standIns := [], harness := (true, "d705a931b4fc3ed8cd28812bfa5fcd8fb909d88a37f0708cc234cda7828acdf2"), looks := true }, kinds := [], alts := [], laidByText := true, laidKinds := [.data, .data, .pinned], laidTests := true, laidLooks := .later }
def EntryTakesCardSaid : Prop := Claim7.holds Tryd.pinned (.plain (OpenSpec.ofChange entryTakesSpec)) entryTakesCard

/-- THE TIED CARD OF 'pleachlaw10.EntryBack'. -/
def entryBackCard : Claim7 := { stood := { row := entryBackRow, standIns := [], harness := (true, "d705a931b4fc3ed8cd28812bfa5fcd8fb909d88a37f0708cc234cda7828acdf2"), looks := true }, kinds := [], alts := [], laidByText := true, laidKinds := [.data, .data, .pinned], laidTests := true, laidLooks := .later }
def EntryBackCardSaid : Prop := Claim7.holds Tryd.pinned (.plain (OpenSpec.ofChange entryBackSpec)) entryBackCard

/-- THE SECOND FORM's CARD OF 'pleachlaw06.ValueTakes'. -/
def valueTakesUptoCard : Claim7 := { stood := { row := valueTakesUptoRow, standIns := [], harness := (true, "d705a931b4fc3ed8cd28812bfa5fcd8fb909d88a37f0708cc234cda7828acdf2"), looks := true }, kinds := [], alts := [], laidByText := true, laidKinds := [.data, .data, .data], laidTests := true, laidLooks := .later }
def ValueTakesUptoCardSaid : Prop := Claim7.holds Tryd.pinned (.plain (OpenSpec.upto valueTakesSpec)) valueTakesUptoCard

/-- THE SECOND FORM's CARD OF 'pleachlaw06.ValueParses'. -/
def valueParsesUptoCard : Claim7 := { stood := { row := valueParsesUptoRow, standIns := [], harness := (true, "d705a931b4fc3ed8cd28812bfa5fcd8fb909d88a37f0708cc234cda7828acdf2"), looks := true }, kinds := [], alts := [], laidByText := true, laidKinds := [.data, .data, .data, .sentinel, .sentinel], laidTests := true, laidLooks := .later }
def ValueParsesUptoCardSaid : Prop := Claim7.holds Tryd.pinned (.plain (OpenSpec.upto valueParsesSpec)) valueParsesUptoCard

/-- THE SECOND FORM's CARD OF 'pleachlaw06.ValueBack'. -/
def valueBackUptoCard : Claim7 := { stood := { row := valueBackUptoRow, standIns := [], harness := (true, "d705a931b4fc3ed8cd28812bfa5fcd8fb909d88a37f0708cc234cda7828acdf2"), looks := true }, kinds := [], alts := [], laidByText := true, laidKinds := [.data, .data, .data, .sentinel, .sentinel], laidTests := true, laidLooks := .later }
def ValueBackUptoCardSaid : Prop := Claim7.holds Tryd.pinned (.plain (OpenSpec.upto valueBackSpec)) valueBackUptoCard

/-- THE SECOND FORM's CARD OF 'pleachlaw08.SeatPuts'. -/
def seatPutsUptoCard : Claim7 := { stood := { row := seatPutsUptoRow, standIns := [], harness := (true, "d705a931b4fc3ed8cd28812bfa5fcd8fb909d88a37f0708cc234cda7828acdf2"), looks := true }, kinds := [], alts := [], laidByText := true, laidKinds := [.data, .data, .pinned], laidTests := true, laidLooks := .later }
def SeatPutsUptoCardSaid : Prop := Claim7.holds Tryd.pinned (.plain (OpenSpec.upto seatPutsSpec)) seatPutsUptoCard

/-- THE SECOND FORM's CARD OF 'pleachlaw08.SeatTakes'. -/
def seatTakesUptoCard : Claim7 := { stood := { row := seatTakesUptoRow, standIns := [], harness := (true, "d705a931b4fc3ed8cd28812bfa5fcd8fb909d88a37f0708cc234cda7828acdf2"), looks := true }, kinds := [], alts := [], laidByText := true, laidKinds := [.data, .data, .pinned], laidTests := true, laidLooks := .later }
def SeatTakesUptoCardSaid : Prop := Claim7.holds Tryd.pinned (.plain (OpenSpec.upto seatTakesSpec)) seatTakesUptoCard

/-- THE SECOND FORM's CARD OF 'pleachlaw08.SeatFull'. -/
def seatFullUptoCard : Claim7 := { stood := { row := seatFullUptoRow, standIns := [], harness := (true, "d705a931b4fc3ed8cd28812bfa5fcd8fb909d88a37f0708cc234cda7828acdf2"), looks := true }, kinds := [], alts := [], laidByText := true, laidKinds := [.data, .data, .pinned], laidTests := true, laidLooks := .later }
def SeatFullUptoCardSaid : Prop := Claim7.holds Tryd.pinned (.plain (OpenSpec.upto seatFullSpec)) seatFullUptoCard

/-- THE SECOND FORM's CARD OF 'pleachlaw08.SeatLater'. -/
def seatLaterUptoCard : Claim7 := { stood := { row := seatLaterUptoRow, standIns := [], harness := (true, "d705a931b4fc3ed8cd28812bfa5fcd8fb909d88a37f0708cc234cda7828acdf2"), looks := true }, kinds := [], alts := [], laidByText := true, laidKinds := [.data, .data, .pinned], laidTests := true, laidLooks := .later }
def SeatLaterUptoCardSaid : Prop := Claim7.holds Tryd.pinned (.plain (OpenSpec.upto seatLaterSpec)) seatLaterUptoCard

/-- THE SECOND FORM's CARD OF 'pleachlaw08.SeatBack'. -/
def seatBackUptoCard : Claim7 := { stood := { row := seatBackUptoRow, standIns := [], harness := (true, "d705a931b4fc3ed8cd28812bfa5fcd8fb909d88a37f0708cc234cda7828acdf2"), looks := true }, kinds := [], alts := [], laidByText := true, laidKinds := [.data, .data, .pinned], laidTests := true, laidLooks := .later }
def SeatBackUptoCardSaid : Prop := Claim7.holds Tryd.pinned (.plain (OpenSpec.upto seatBackSpec)) seatBackUptoCard

/-- THE SECOND FORM's CARD OF 'pleachlaw10.EntryPuts'. -/
def entryPutsUptoCard : Claim7 := { stood := { row := entryPutsUptoRow, standIns := [], harness := (true, "d705a931b4fc3ed8cd28812bfa5fcd8fb909d88a37f0708cc234cda7828acdf2"), looks := true }, kinds := [], alts := [], laidByText := true, laidKinds := [.data, .data, .pinned], laidTests := true, laidLooks := .later }
def EntryPutsUptoCardSaid : Prop := Claim7.holds Tryd.pinned (.plain (OpenSpec.upto entryPutsSpec)) entryPutsUptoCard

/-- THE SECOND FORM's CARD OF 'pleachlaw10.EntryTakes'. -/
def entryTakesUptoCard : Claim7 := { stood := { row := entryTakesUptoRow, standIns := [], harness := (true, "d705a931b4fc3ed8cd28812bfa5fcd8fb909d88a37f0708cc234cda7828acdf2"), looks := true }, kinds := [], alts := [], laidByText := true, laidKinds := [.data, .data, .pinned], laidTests := true, laidLooks := .later }
def EntryTakesUptoCardSaid : Prop := Claim7.holds Tryd.pinned (.plain (OpenSpec.upto entryTakesSpec)) entryTakesUptoCard

/-- THE SECOND FORM's CARD OF 'pleachlaw10.EntryBack'. -/
def entryBackUptoCard : Claim7 := { stood := { row := entryBackUptoRow, standIns := [], harness := (true, "d705a931b4fc3ed8cd28812bfa5fcd8fb909d88a37f0708cc234cda7828acdf2"), looks := true }, kinds := [], alts := [], laidByText := true, laidKinds := [.data, .data, .pinned], laidTests := true, laidLooks := .later }
def EntryBackUptoCardSaid : Prop := Claim7.holds Tryd.pinned (.plain (OpenSpec.upto entryBackSpec)) entryBackUptoCard
end Rows
end Go.Proofs.YtcgoegehgcecpaaDoor
