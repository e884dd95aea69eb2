/- Seize over this translation. Condition: at most 100000 sectors, at most 100000 writes. -/
import Derived.Test.YtagenkofoacajaaDLp
namespace Go.Proofs.Ytagenkofoacajaa
open Go.RowKit Vi

end Go.Proofs.Ytagenkofoacajaa
