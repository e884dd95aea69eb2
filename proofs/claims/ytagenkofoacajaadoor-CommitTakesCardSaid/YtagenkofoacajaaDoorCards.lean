/-
  DERIVED. GIVEN WITH THE SEED: THE CARDS: each row of YtagenkofoacajaaDoorRows.lean that lists a variable, with what it lists TIED to the program's text (the seventh form; the later family's looks); each row that meets fmt, with fmt's text TOLD by the authors' own Lean function (tested against real Go, not proved from fmt's source: count such statements apart). THE CARD IS WHAT COUNTS. Prove the row's statement (the work); the ties are given (YtagenkofoacajaaDoorTie.lean); close each card by the builder's one call (the guide's Derived/Test/ToyasCard.lean, 'card_holds'). Laid BY PROGRAM, IN A SANDBOX (cutbox-door.mjs). By AI agents, Wed Nov 11 2026. No macro, syntax, notation, axiom, sorry.
-/
import Derived.Test.YtagenkofoacajaaDoorRows
import GoSem.ClaimSeven
namespace Go.Proofs.YtagenkofoacajaaDoor
namespace Rows

/-- THE TIED CARD OF 'pleachlaw15.LogNobody'. -/
def logNobodyCard : Claim7 := { stood := { row := logNobodyRow, standIns := [], harness := (true, "25fc8fa0049de08d33fc57ea175b888e598f1c000de2a0918e9e0ef780546420"), looks := false }, kinds := [], alts := [], laidByText := true, laidKinds := [.data], laidTests := true, laidLooks := .later }
def LogNobodyCardSaid : Prop := Claim7.holds Tryd.pinned (.plain (OpenSpec.ofChange logNobodySpec)) logNobodyCard

/-- THE TIED CARD OF 'pleachlaw35.CommitPuts'. -/
def commitPutsCard : Claim7 := { stood := { row := commitPutsRow, standIns := [], harness := (true, "25fc8fa0049de08d33fc57ea175b888e598f1c000de2a0918e9e0ef780546420"), looks := false }, kinds := [], alts := [], laidByText := true, laidKinds := [.data], laidTests := true, laidLooks := .later }
def CommitPutsCardSaid : Prop := Claim7.holds Tryd.pinned (.plain (OpenSpec.ofChange commitPutsSpec)) commitPutsCard

/-- THE TIED CARD OF 'pleachlaw35.CommitTakes'. -/
def commitTakesCard : Claim7 := { stood := { row := commitTakesRow, standIns := [], harness := (true, "25fc8fa0049de08d33fc57ea175b888e598f1c000de2a0918e9e0ef780546420"), looks := false }, kinds := [], alts := [], laidByText := true, laidKinds := [.data], laidTests := true, laidLooks := .later }
def CommitTakesCardSaid : Prop := Claim7.holds Tryd.pinned (.plain (OpenSpec.ofChange commitTakesSpec)) commitTakesCard

/-- THE SECOND FORM's CARD OF 'pleachlaw15.LogNobody'. -/
def logNobodyUptoCard : Claim7 := { stood := { row := logNobodyUptoRow, standIns := [], harness := (true, "25fc8fa0049de08d33fc57ea175b888e598f1c000de2a0918e9e0ef780546420"), looks := false }, kinds := [], alts := [], laidByText := true, laidKinds := [.data], laidTests := true, laidLooks := .later }
def LogNobodyUptoCardSaid : Prop := Claim7.holds Tryd.pinned (.plain (OpenSpec.upto logNobodySpec)) logNobodyUptoCard

/-- THE SECOND FORM's CARD OF 'pleachlaw35.CommitPuts'. -/
def commitPutsUptoCard : Claim7 := { stood := { row := commitPutsUptoRow, standIns := [], harness := (true, "25fc8fa0049de08d33fc57ea175b888e598f1c000de2a0918e9e0ef780546420"), looks := false }, kinds := [], alts := [], laidByText := true, laidKinds := [.data], laidTests := true, laidLooks := .later }
def CommitPutsUptoCardSaid : Prop := Claim7.holds Tryd.pinned (.plain (OpenSpec.upto commitPutsSpec)) commitPutsUptoCard

/-- THE SECOND FORM's CARD OF 'pleachlaw35.CommitTakes'. -/
def commitTakesUptoCard : Claim7 := { stood := { row := commitTakesUptoRow, standIns := [], harness := (true, "25fc8fa0049de08d33fc57ea175b888e598f1c000de2a0918e9e0ef780546420"), looks := false }, kinds := [], alts := [], laidByText := true, laidKinds := [.data], laidTests := true, laidLooks := .later }
def CommitTakesUptoCardSaid : Prop := Claim7.holds Tryd.pinned (.plain (OpenSpec.upto commitTakesSpec)) commitTakesUptoCard
end Rows
end Go.Proofs.YtagenkofoacajaaDoor
