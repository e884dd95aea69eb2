/- The contract of the document's Take of layer 8 over this translation. Condition: texts of at most a thousand bytes. -/
import Derived.Test.YtagenkofoacajaaGreatDoorZb
import Derived.Test.YtagenkofoacajaaGreatDoorYh
namespace Go.Proofs.YtagenkofoacajaaGreatDoor
open Go.RowKit Vi Cm

theorem sv_scv (S : ByteArray) (q : Nat) (er : Int) : sv S q er = .agg (scv S q er) := rfl
end Go.Proofs.YtagenkofoacajaaGreatDoor
