/- The closed facts of this seat that hang on the program alone. No condition. -/
import Derived.Test.YtagenkofoacajaaRows
import Derived.WalkKit
import Derived.ProofKit
namespace Go.Proofs.Ytagenkofoacajaa
open Go.ChangeShapes Go.WideShapes Go.ChangeAt Go.RowKit
theorem pf_own : ownKnob Try.prog.godebug = none := by kernel_rfl
theorem pf_laid : laidOutB Try.prog = true := by kernel_rfl
theorem pf_1 : (laidOutB Try.pinned.checked.prog) = true := pf_laid
theorem pf_2 : (mapsRowed Try.pinned.checked.prog) = true := by kernel_rfl
theorem pf_6 : ((Try.pinned.checked.prog.stops == [])) = true := by kernel_rfl
theorem pf_8 : ((Try.pinned.checked.prog.stopKnobs == [])) = true := by kernel_rfl
theorem pf_22 : ((Rows.logSafeRow.plainKeys == Try.pinned.checked.prog.plainKeys)) = true := by kernel_rfl
theorem pf_24 : (Try.pinned.checked.prog.stopsHeard) = true := by kernel_rfl
theorem pf_25 : (Try.pinned.checked.prog.mayEnter) = true := by kernel_rfl
theorem pf_26 : ((Rows.logSafeRow.lifted == Try.pinned.checked.prog.liftsFinal)) = true := by kernel_rfl
theorem pf_27 : ((Try.pinned.checked.prog.make == some Rows.logSafeRow.make)) = true := by kernel_rfl
theorem band {a b : Bool} (h : a = true) (k : b = true) : (a && b) = true := by rw [h, k]; rfl
end Go.Proofs.Ytagenkofoacajaa
