/- Seize over this translation. Condition: at most 100000 sectors, at most 100000 writes. -/
import Derived.Test.YtagenkofoacajaaDoorDLp
namespace Go.Proofs.YtagenkofoacajaaDoor
open Go.RowKit Vi

end Go.Proofs.YtagenkofoacajaaDoor
