/- The closed facts of this seat that hang on the program alone. No condition. -/
import Derived.Test.YtagenkofoacajaaGreatRows
import Derived.WalkKit
import Derived.ProofKit
namespace Go.Proofs.YtagenkofoacajaaGreat
open Go.ChangeShapes Go.WideShapes Go.ChangeAt Go.RowKit
theorem pf_own : ownKnob Tryz.prog.godebug = none := by kernel_rfl
theorem pf_laid : laidOutB Tryz.prog = true := by kernel_rfl
theorem pf_1 : (laidOutB Tryz.pinned.checked.prog) = true := pf_laid
theorem pf_2 : (mapsRowed Tryz.pinned.checked.prog) = true := by kernel_rfl
theorem pf_6 : ((Tryz.pinned.checked.prog.stops == [])) = true := by kernel_rfl
theorem pf_8 : ((Tryz.pinned.checked.prog.stopKnobs == [])) = true := by kernel_rfl
theorem pf_22 : ((Rows.graphFindsRow.plainKeys == Tryz.pinned.checked.prog.plainKeys)) = true := by kernel_rfl
theorem pf_24 : (Tryz.pinned.checked.prog.stopsHeard) = true := by kernel_rfl
theorem pf_25 : (Tryz.pinned.checked.prog.mayEnter) = true := by kernel_rfl
theorem pf_26 : ((Rows.graphFindsRow.lifted == Tryz.pinned.checked.prog.liftsFinal)) = true := by kernel_rfl
theorem pf_27 : ((Tryz.pinned.checked.prog.make == some Rows.graphFindsRow.make)) = true := by kernel_rfl
theorem band {a b : Bool} (h : a = true) (k : b = true) : (a && b) = true := by rw [h, k]; rfl
end Go.Proofs.YtagenkofoacajaaGreat
