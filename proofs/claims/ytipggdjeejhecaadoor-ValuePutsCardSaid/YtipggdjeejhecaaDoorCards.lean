/-
  DERIVED. GIVEN WITH THE SEED: THE CARDS: each row of YtipggdjeejhecaaDoorRows.lean that lists a variable, with what it lists TIED to the program's text (the seventh form; the later family's looks); each row that meets fmt, with fmt's text TOLD by the authors' own Lean function (tested against real Go, not proved from fmt's source: count such statements apart). THE CARD IS WHAT COUNTS. Prove the row's statement (the work); the ties are given (YtipggdjeejhecaaDoorTie.lean); close each card by the builder's one call (the guide's Derived/Test/ToyasCard.lean, 'card_holds'). Laid BY PROGRAM, IN A SANDBOX (cutbox-door.mjs). By AI agents, Wed Nov 11 2026. No macro, syntax, notation, axiom, sorry.
-/
import Derived.Test.YtipggdjeejhecaaDoorRows
import GoSem.ClaimSeven
namespace Go.Proofs.YtipggdjeejhecaaDoor
namespace Rows

/-- THE TIED CARD OF 'pleachlaw06.ValuePuts'. -/
def valuePutsCard : Claim7 := { stood := { row := valuePutsRow, standIns := [], harness := (true, "e2bbfe4c768caf4513860da30f0ed55fcff2d9e9f762bdedf470a2d6b9e41508"), looks := false }, kinds := [], alts := [], laidByText := true, laidKinds := [.data, .data, .data], laidTests := true, laidLooks := .later }
def ValuePutsCardSaid : Prop := Claim7.holds Tryd.pinned (.plain (OpenSpec.ofChange valuePutsSpec)) valuePutsCard

/-- THE TIED CARD OF 'pleachlaw06.ValueTakes'. -/
def valueTakesCard : Claim7 := { stood := { row := valueTakesRow, standIns := [], harness := (true, "e2bbfe4c768caf4513860da30f0ed55fcff2d9e9f762bdedf470a2d6b9e41508"), looks := false }, kinds := [], alts := [], laidByText := true, laidKinds := [.data, .data, .data], laidTests := true, laidLooks := .later }
def ValueTakesCardSaid : Prop := Claim7.holds Tryd.pinned (.plain (OpenSpec.ofChange valueTakesSpec)) valueTakesCard

/-- THE TIED CARD OF 'pleachlaw06.ValueOrder'. -/
def valueOrderCard : Claim7 := { stood := { row := valueOrderRow, standIns := [], harness := (true, "e2bbfe4c768caf4513860da30f0ed55fcff2d9e9f762bdedf470a2d6b9e41508"), looks := false }, kinds := [], alts := [], laidByText := true, laidKinds := [.data, .data, .data], laidTests := true, laidLooks := .later }
def ValueOrderCardSaid : Prop := Claim7.holds Tryd.pinned (.plain (OpenSpec.ofChange valueOrderSpec)) valueOrderCard

/-- THE TIED CARD OF 'pleachlaw08.SeatPuts'. -/
def seatPutsCard : Claim7 := { stood := { row := seatPutsRow, standIns := [], harness := (true, "e2bbfe4c768caf4513860da30f0ed55fcff2d9e9f762bdedf470a2d6b9e41508"), looks := false }, kinds := [], alts := [], laidByText := true, laidKinds := [.data, .data, .pinned], laidTests := true, laidLooks := .later }
def SeatPutsCardSaid : Prop := Claim7.holds Tryd.pinned (.plain (OpenSpec.ofChange seatPutsSpec)) seatPutsCard

/-- THE TIED CARD OF 'pleachlaw08.SeatTakes'. -/
def seatTakesCard : Claim7 := { stood := { row := seatTakesRow, standIns := [], harness := (true, "e2bbfe4c768caf4513860da30f0ed55fcff2d9e9f762bdedf470a2d6b9e41508"), looks := false }, kinds := [], alts := [], laidByText := true, laidKinds := [.data, .data, .pinned], laidTests := true, laidLooks := .later }
def SeatTakesCardSaid : Prop := Claim7.holds Tryd.pinned (.plain (OpenSpec.ofChange seatTakesSpec)) seatTakesCard

/-- THE TIED CARD OF 'pleachlaw08.SeatFull'. -/
def seatFullCard : Claim7 := { stood := { row := seatFullRow, standIns := [], harness := (true, "e2bbfe4c768caf4513860da30f0ed55fcff2d9e9f762bdedf470a2d6b9e41508"), looks := false }, kinds := [], alts := [], laidByText := true, laidKinds := [.data, .data, .pinned], laidTests := true, laidLooks := .later }
def SeatFullCardSaid : Prop := Claim7.holds Tryd.pinned (.plain (OpenSpec.ofChange seatFullSpec)) seatFullCard

/-- THE TIED CARD OF 'pleachlaw08.SeatLater'. -/
def seatLaterCard : Claim7 := { stood := { row := seatLaterRow, standIns := [], harness := (true, "e2bbfe4c768caf4513860da30f0ed55fcff2d9e9f762bdedf470a2d6b9e41508"), looks := false }, kinds := [], alts := [], laidByText := true, laidKinds := [.data, .data, .pinned], laidTests := true, laidLooks := .later }
def SeatLaterCardSaid : Prop := Claim7.holds Tryd.pinned (.plain (OpenSpec.ofChange seatLaterSpec)) seatLaterCard

/-- THE TIED CARD OF 'pleachlaw08.SeatBack'. -/
def seatBackCard : Claim7 := { stood := { row := seatBackRow, standIns := [], harness := (true, "e2bbfe4c768caf4513860da30f0ed55fcff2d9e9f762bdedf470a2d6b9e41508"), looks := false }, kinds := [], alts := [], laidByText := true, laidKinds := [.data, .data, .pinned], laidTests := true, laidLooks := .later }
def SeatBackCardSaid : Prop := Claim7.holds Tryd.pinned (.plain (OpenSpec.ofChange seatBackSpec)) seatBackCard

/-- THE TIED CARD OF 'pleachlaw10.EntryPuts'. -/
def entryPutsCard : Claim7 := { stood := { row := entryPutsRow, standIns := [], harness := (true, "e2bbfe4c768caf4513860da30f0ed55fcff2d9e9f762bdedf470a2d6b9e41508"), looks := false }, kinds := [], alts := [], laidByText := true, laidKinds := [.data, .data, .pinned], laidTests := true, laidLooks := .later }
def EntryPutsCardSaid : Prop := Claim7.holds Tryd.pinned (.plain (OpenSpec.ofChange entryPutsSpec)) entryPutsCard

/-- THE TIED CARD OF 'pleachlaw10.EntryTakes'. -/
def entryTakesCard : Claim7 := { stood := { row := entryTakesRow, standIns := [], harness := (true, "e2bbfe4c768caf4513860da30f0ed55fcff2d9e9f762bdedf470a2d6b9e41508"), looks := false }, kinds := [], alts := [], laidByText := true, laidKinds := [.data, .data, .pinned], laidTests := true, laidLooks := .later }
def EntryTakesCardSaid : Prop := Claim7.holds Tryd.pinned (.plain (OpenSpec.ofChange entryTakesSpec)) entryTakesCard

/-- THE TIED CARD OF 'pleachlaw10.EntryBack'. -/
def entryBackCard : Claim7 := { stood := { row := entryBackRow, standIns := [], harness := (true, "e2bbfe4c768caf4513860da30f0ed55fcff2d9e9f762bdedf470a2d6b9e41508"), looks := false }, kinds := [], alts := [], laidByText := true, laidKinds := [.data, .data, .pinned], laidTests := true, laidLooks := .later }
def EntryBackCardSaid : Prop := Claim7.holds Tryd.pinned (.plain (OpenSpec.ofChange entryBackSpec)) entryBackCard

/-- THE SECOND FORM's CARD OF 'pleachlaw06.ValuePuts'. -/
def valuePutsUptoCard : Claim7 := { stood := { row := valuePutsUptoRow, standIns := [], harness := (true, "e2bbfe4c768caf4513860da30f0ed55fcff2d9e9f762bdedf470a2d6b9e41508"), looks := false }, kinds := [], alts := [], laidByText := true, laidKinds := [.data, .data, .data], laidTests := true, laidLooks := .later }
def ValuePutsUptoCardSaid : Prop := Claim7.holds Tryd.pinned (.plain (OpenSpec.upto valuePutsSpec)) valuePutsUptoCard

/-- THE SECOND FORM's CARD OF 'pleachlaw06.ValueTakes'. -/
def valueTakesUptoCard : Claim7 := { stood := { row := valueTakesUptoRow, standIns := [], harness := (true, "e2bbfe4c768caf4513860da30f0ed55fcff2d9e9f762bdedf470a2d6b9e41508"), looks := false }, kinds := [], alts := [], laidByText := true, laidKinds := [.data, .data, .data], laidTests := true, laidLooks := .later }
def ValueTakesUptoCardSaid : Prop := Claim7.holds Tryd.pinned (.plain (OpenSpec.upto valueTakesSpec)) valueTakesUptoCard

/-- THE SECOND FORM's CARD OF 'pleachlaw06.ValueOrder'. -/
def valueOrderUptoCard : Claim7 := { stood := { row := valueOrderUptoRow, standIns := [], harness := (true, "e2bbfe4c768caf4513860da30f0ed55fcff2d9e9f762bdedf470a2d6b9e41508"), looks := false }, kinds := [], alts := [], laidByText := true, laidKinds := [.data, .data, .data], laidTests := true, laidLooks := .later }
def ValueOrderUptoCardSaid : Prop := Claim7.holds Tryd.pinned (.plain (OpenSpec.upto valueOrderSpec)) valueOrderUptoCard

/-- THE SECOND FORM's CARD OF 'pleachlaw08.SeatPuts'. -/
def seatPutsUptoCard : Claim7 := { stood := { row := seatPutsUptoRow, standIns := [], harness := (true, "e2bbfe4c768caf4513860da30f0ed55fcff2d9e9f762bdedf470a2d6b9e41508"), looks := false }, kinds := [], alts := [], laidByText := true, laidKinds := [.data, .data, .pinned], laidTests := true, laidLooks := .later }
def SeatPutsUptoCardSaid : Prop := Claim7.holds Tryd.pinned (.plain (OpenSpec.upto seatPutsSpec)) seatPutsUptoCard

/-- THE SECOND FORM's CARD OF 'pleachlaw08.SeatTakes'. -/
def seatTakesUptoCard : Claim7 := { stood := { row := seatTakesUptoRow, standIns := [], harness := (true, "e2bbfe4c768caf4513860da30f0ed55fcff2d9e9f762bdedf470a2d6b9e41508"), looks := false }, kinds := [], alts := [], laidByText := true, laidKinds := [.data, .data, .pinned], laidTests := true, laidLooks := .later }
def SeatTakesUptoCardSaid : Prop := Claim7.holds Tryd.pinned (.plain (OpenSpec.upto seatTakesSpec)) seatTakesUptoCard

/-- THE SECOND FORM's CARD OF 'pleachlaw08.SeatFull'. -/
def seatFullUptoCard : Claim7 := { stood := { row := seatFullUptoRow, standIns := [], harness := (true, "e2bbfe4c768caf4513860da30f0ed55fcff2d9e9f762bdedf470a2d6b9e41508"), looks := false }, kinds := [], alts := [], laidByText := true, laidKinds := [.data, .data, .pinned], laidTests := true, laidLooks := .later }
def SeatFullUptoCardSaid : Prop := Claim7.holds Tryd.pinned (.plain (OpenSpec.upto seatFullSpec)) seatFullUptoCard

/-- THE SECOND FORM's CARD OF 'pleachlaw08.SeatLater'. -/
def seatLaterUptoCard : Claim7 := { stood := { row := seatLaterUptoRow, standIns := [], harness := (true, "e2bbfe4c768caf4513860da30f0ed55fcff2d9e9f762bdedf470a2d6b9e41508"), looks := false }, kinds := [], alts := [], laidByText := true, laidKinds := [.data, .data, .pinned], laidTests := true, laidLooks := .later }
def SeatLaterUptoCardSaid : Prop := Claim7.holds Tryd.pinned (.plain (OpenSpec.upto seatLaterSpec)) seatLaterUptoCard

/-- THE SECOND FORM's CARD OF 'pleachlaw08.SeatBack'. -/
def seatBackUptoCard : Claim7 := { stood := { row := seatBackUptoRow, standIns := [], harness := (true, "e2bbfe4c768caf4513860da30f0ed55fcff2d9e9f762bdedf470a2d6b9e41508"), looks := false }, kinds := [], alts := [], laidByText := true, laidKinds := [.data, .data, .pinned], laidTests := true, laidLooks := .later }
def SeatBackUptoCardSaid : Prop := Claim7.holds Tryd.pinned (.plain (OpenSpec.upto seatBackSpec)) seatBackUptoCard

/-- THE SECOND FORM's CARD OF 'pleachlaw10.EntryPuts'. -/
def entryPutsUptoCard : Claim7 := { stood := { row := entryPutsUptoRow, standIns := [], harness := (true, "e2bbfe4c768caf4513860da30f0ed55fcff2d9e9f762bdedf470a2d6b9e41508"), looks := false }, kinds := [], alts := [], laidByText := true, laidKinds := [.data, .data, .pinned], laidTests := true, laidLooks := .later }
def EntryPutsUptoCardSaid : Prop := Claim7.holds Tryd.pinned (.plain (OpenSpec.upto entryPutsSpec)) entryPutsUptoCard

/-- THE SECOND FORM's CARD OF 'pleachlaw10.EntryTakes'. -/
def entryTakesUptoCard : Claim7 := { stood := { row := entryTakesUptoRow, standIns := [], harness := (true, "e2bbfe4c768caf4513860da30f0ed55fcff2d9e9f762bdedf470a2d6b9e41508"), looks := false }, kinds := [], alts := [], laidByText := true, laidKinds := [.data, .data, .pinned], laidTests := true, laidLooks := .later }
def EntryTakesUptoCardSaid : Prop := Claim7.holds Tryd.pinned (.plain (OpenSpec.upto entryTakesSpec)) entryTakesUptoCard

/-- THE SECOND FORM's CARD OF 'pleachlaw10.EntryBack'. -/
def entryBackUptoCard : Claim7 := { stood := { row := entryBackUptoRow, standIns := [], harness := (true, "e2bbfe4c768caf4513860da30f0ed55fcff2d9e9f762bdedf470a2d6b9e41508"), looks := false }, kinds := [], alts := [], laidByText := true, laidKinds := [.data, .data, .pinned], laidTests := true, laidLooks := .later }
def EntryBackUptoCardSaid : Prop := Claim7.holds Tryd.pinned (.plain (OpenSpec.upto entryBackSpec)) entryBackUptoCard
end Rows
end Go.Proofs.YtipggdjeejhecaaDoor
