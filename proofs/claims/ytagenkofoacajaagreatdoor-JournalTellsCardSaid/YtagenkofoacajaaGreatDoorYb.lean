/- The contracts of the document's Is, Full, Sealed and Put of layer 8 over this translation. No condition. -/
import Derived.Test.YtagenkofoacajaaGreatDoorYa
import Derived.Lib.QuietBelow
import Derived.BigQuiet
namespace Go.Proofs.YtagenkofoacajaaGreatDoor
open Go.RowKit Vi Cm

theorem noughts_snoc (S : ByteArray) (k : Nat) : (S ++ ⟨#[0]⟩ : ByteArray) ++ noughts k = S ++ noughts (k + 1) := by
  have e : noughts (k + 1) = ⟨#[0]⟩ ++ noughts k := by
    apply ByteArray.ext
    simp [noughts, Lib.repeatL]
  rw [e, ByteArray.append_assoc]
theorem full_zero (S : ByteArray) : S ++ noughts 0 = S := by
  apply ByteArray.ext
  simp [noughts, Lib.repeatL]
end Go.Proofs.YtagenkofoacajaaGreatDoor
