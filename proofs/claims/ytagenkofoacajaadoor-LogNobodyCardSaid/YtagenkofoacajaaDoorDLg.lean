/- step of a flush, and Flush, over this translation. No condition. -/
import Derived.Test.YtagenkofoacajaaDoorDLf
import Derived.Lib.MinMax
namespace Go.Proofs.YtagenkofoacajaaDoor
open Go.RowKit Vi

/-- why a step isn't done -/
def stpE (fu : Int) : Int := if fu = 1 then 7 else 0
def stpD (fu : Int) : Bool := decide (fu = 1)
def stpO (ops fu : Int) : Int := if fu = 1 then ops else ops + 1
def stpS (fu : Int) (SS : List ByteArray) (CC : List Wr) : List ByteArray := if fu = 1 then SS else safeW SS CC
def stpC (fu : Int) (CC : List Wr) : List Wr := if fu = 1 then CC else []
def stpF (fu : Int) : Int := if fu = 1 then 0 else max (fu - 1) 0
end Go.Proofs.YtagenkofoacajaaDoor
