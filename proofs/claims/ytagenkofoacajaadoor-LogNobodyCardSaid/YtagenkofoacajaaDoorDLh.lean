/- Flush over this translation. Condition: counts that aren't near an integer's end. -/
import Derived.Test.YtagenkofoacajaaDoorDLg
namespace Go.Proofs.YtagenkofoacajaaDoor
open Go.RowKit Vi

end Go.Proofs.YtagenkofoacajaaDoor
