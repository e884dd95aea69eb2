/- The contract of Scan.Fix over this translation: so many bytes are read, or not, and the Scan is moved on, or fails. -/
import Derived.Test.YtiagbadnmkeokaaSc
import Derived.Deep.RegionWith
import Derived.RegionTactic
namespace Go.Proofs.Ytiagbadnmkeokaa
open Go.RowKit






end Go.Proofs.Ytiagbadnmkeokaa
