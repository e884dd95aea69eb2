/- The contracts of the document's Put of layer 8 and of seat's Slot over this translation. No condition. -/
import Derived.Test.YtpiafgdbjpfcaaaDoorYb
namespace Go.Proofs.YtpiafgdbjpfcaaaDoor
open Go.RowKit Vi Cm

theorem below_anyY {w w' : World} (h : ∃ p : Regrown, w' = Sort.grow (redrawn w p.d) p.os) : Below w.heap.size w w' := by
  obtain ⟨p, rfl⟩ := h
  exact below_regrown w p.d p.os
/-- what the document's Put answers -/
def headD (a b c d : Int) : ByteArray := if hok a b c d = true then headS a b c d else ⟨#[]⟩
theorem retSY {a b : ByteArray} (h : a = b) : Ending.returned (.string a) = .returned (.string b) := by rw [h]
end Go.Proofs.YtpiafgdbjpfcaaaDoor
