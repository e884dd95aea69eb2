/- The contract of the document's own Get of layer 1 over this translation, for every text that fits a string. -/
import Derived.Test.YtagenkofoacajaaGreatDoorVrput
import Derived.Test.YtagenkofoacajaaGreatDoorVget
import Derived.Deep.RegionWith
import Derived.RegionTactic
namespace Go.Proofs.YtagenkofoacajaaGreatDoor
open Go.RowKit Vi

theorem horner (n c : Nat) : IntKind.u64.wrap (IntKind.u64.wrap ((n : Int) * 128) + (c : Int) % 128) = (((n * 128 + c % 128) % 18446744073709551616 : Nat) : Int) := by
  rw [IntKind.wrap_u64, IntKind.wrap_u64]; omega

theorem ext_list (s : ByteArray) (n : Nat) : (s.extract 0 n).toList = s.data.toList.take n := by
  rw [ByteArray.toList_eq, ByteArray.data_extract, Array.toList_extract]; simp [List.extract]

end Go.Proofs.YtagenkofoacajaaGreatDoor
