/- The contract of seat.Take of what is no head's sector over this translation. Conditions: texts of at most a thousand bytes; the table of crc. -/
import Derived.Test.YtiflieaemgamkaaGreatDoorYg
namespace Go.Proofs.YtiflieaemgamkaaGreatDoor
open Go.RowKit Vi Cm

theorem sz_upto (u : ByteArray) (n : Nat) : (u.extract 0 n).size ≤ u.size := by rw [ByteArray.size_extract]; omega
end Go.Proofs.YtiflieaemgamkaaGreatDoor
