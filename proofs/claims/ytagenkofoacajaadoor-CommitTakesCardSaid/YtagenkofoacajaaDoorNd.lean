/- The contract of the library's binary search in a slice of texts, where those that are less than the one looked for stand ahead of the others. -/
import Derived.Test.YtagenkofoacajaaDoorNc
namespace Go.Proofs.YtagenkofoacajaaDoor
open Go.RowKit

/-- the texts ahead of place K are less, the others are not -/
def Cut (ss : List ByteArray) (x : ByteArray) (K : Nat) : Prop := K ≤ ss.length ∧ (∀ t, (h : t < ss.length) → t < K → Op.bytesLess ss[t].toList x.toList = true) ∧ (∀ t, (h : t < ss.length) → K ≤ t → Op.bytesLess ss[t].toList x.toList = false)
/-- does it stand there? -/
def metB (ss : List ByteArray) (x : ByteArray) (K : Nat) : Bool := decide (K < ss.length) && ((ss.getD K ⟨#[]⟩).toList == x.toList)

end Go.Proofs.YtagenkofoacajaaDoor
