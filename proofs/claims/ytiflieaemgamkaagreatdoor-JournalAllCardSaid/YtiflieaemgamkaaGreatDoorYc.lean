/- The contracts of the document's Put of layer 8 and of seat's Slot over this translation. No condition. -/
import Derived.Test.YtiflieaemgamkaaGreatDoorZb
import Derived.Test.YtiflieaemgamkaaGreatDoorYb
namespace Go.Proofs.YtiflieaemgamkaaGreatDoor
open Go.RowKit Vi Cm

/-- what the document's Put answers -/
def headD (a b c d : Int) : ByteArray := if hok a b c d = true then headS a b c d else ⟨#[]⟩
theorem retSY {a b : ByteArray} (h : a = b) : Ending.returned (.string a) = .returned (.string b) := by rw [h]
end Go.Proofs.YtiflieaemgamkaaGreatDoor
