/- The contract of the document's own Put of layer 1 over this translation, for every number of 64 bits. -/
import Derived.Test.YtagenkofoacajaaGreatDoorVref
namespace Go.Proofs.YtagenkofoacajaaGreatDoor
open Go.RowKit Vi

theorem str_snoc (l : List UInt8) (b : UInt8) : (ByteArray.mk l.toArray ++ ByteArray.mk #[b]) = ByteArray.mk (l ++ [b]).toArray := ByteArray.mk_append_mk l [b]

end Go.Proofs.YtagenkofoacajaaGreatDoor
