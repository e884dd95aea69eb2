/- The contract of the document's Take of layer 8 of what is no head's sector over this translation. Condition: texts of at most a thousand bytes. -/
import Derived.Test.YtiflieaemgamkaaGreatDoorYi
namespace Go.Proofs.YtiflieaemgamkaaGreatDoor
open Go.RowKit Vi Cm

end Go.Proofs.YtiflieaemgamkaaGreatDoor
