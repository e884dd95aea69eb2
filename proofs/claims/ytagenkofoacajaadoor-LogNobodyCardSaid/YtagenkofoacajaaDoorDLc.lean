/- settle of none, and Boot, over this translation. No condition. -/
import Derived.Test.YtagenkofoacajaaDoorDLb
import Derived.IntWalk
namespace Go.Proofs.YtagenkofoacajaaDoor
open Go.RowKit Vi

end Go.Proofs.YtagenkofoacajaaDoor
