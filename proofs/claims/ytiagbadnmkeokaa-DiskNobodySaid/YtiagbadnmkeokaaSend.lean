/- Contracts of Scan.End, Byte and Text over this translation where there is no error yet. Conditions: texts of at most a million bytes. -/
import Derived.Test.YtiagbadnmkeokaaSmore
import Derived.Test.YtiagbadnmkeokaaSnum
import Derived.Test.YtiagbadnmkeokaaSerr
import Derived.Lib.Split
namespace Go.Proofs.Ytiagbadnmkeokaa
open Go.RowKit Vi








end Go.Proofs.Ytiagbadnmkeokaa
