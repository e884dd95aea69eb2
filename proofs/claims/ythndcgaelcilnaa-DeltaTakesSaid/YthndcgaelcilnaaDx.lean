/- The document's stands of layer 11 over this translation. -/
import Derived.Test.YthndcgaelcilnaaDu
namespace Go.Proofs.Ythndcgaelcilnaa
open Go.RowKit Vi

def stI (o : Option Nat) : Int := match o with | some p => (p : Int) | none => -1
theorem fsp_at (L s : List UInt8) (k : Nat) (h : k + 8 ≤ L.length) : fsp L s (L.length - 7 - k) = if win L k = s then some k else fsp L s (L.length - 7 - (k + 1)) := by
  have e : L.length - 7 - k = (L.length - 8 - k) + 1 := by omega
  have e2 : L.length - 8 - (L.length - 8 - k) = k := by omega
  have e3 : L.length - 7 - (k + 1) = L.length - 8 - k := by omega
  rw [e, fsp, e2, e3]
end Go.Proofs.Ythndcgaelcilnaa
