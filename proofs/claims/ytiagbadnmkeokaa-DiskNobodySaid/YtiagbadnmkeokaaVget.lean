/- Contracts of varint.mayEnd, varint.Get and varint.GetInt over this translation: for every text that fits a string, what is taken off its front. -/
import Derived.Test.YtiagbadnmkeokaaVg
import Derived.Test.YtiagbadnmkeokaaVm
namespace Go.Proofs.Ytiagbadnmkeokaa
open Go.RowKit Vi


/-- what Get answers -/
def gv (l : List UInt8) : Value := .tuple #[.int .u64 (gn l), .int .i64 (gk l), .bool (gb l)]
theorem gv_none {l : List UInt8} (h : Vi.get l = none) : gv l = .tuple #[.int .u64 0, .int .i64 0, .bool false] := by
  obtain ⟨a, b, c⟩ := get_none_is h; simp [gv, a, b, c]


end Go.Proofs.Ytiagbadnmkeokaa
