/- Contracts of the document's Is and Row, and of name.Row. Condition of the rows: texts that fit a string. -/
import Derived.Test.YtagenkofoacajaaDoorNa
import Derived.RegionTactic
import Derived.Deep.QuietTactic
import Derived.BigQuiet
namespace Go.Proofs.YtagenkofoacajaaDoor
open Go.RowKit

end Go.Proofs.YtagenkofoacajaaDoor
