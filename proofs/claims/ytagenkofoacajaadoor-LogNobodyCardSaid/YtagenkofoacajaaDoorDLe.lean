/- Over over this translation. No condition. -/
import Derived.Test.YtagenkofoacajaaDoorDLd
namespace Go.Proofs.YtagenkofoacajaaDoor
open Go.RowKit Vi

/-- the sectors that are safe, one written over -/
def overS (SS : List ByteArray) (i : Int) (s : ByteArray) : List ByteArray := if dckE SS.length i s = 0 then SS.set i.toNat s else SS
end Go.Proofs.YtagenkofoacajaaDoor
