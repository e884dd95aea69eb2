/- settle of all over this translation. No condition. -/
import Derived.Test.YtagenkofoacajaaDoorDLe
import Derived.IntWalk
import Derived.Deep.RegionHeld3
namespace Go.Proofs.YtagenkofoacajaaDoor
open Go.RowKit Vi

/-- the sectors when writes are safe -/
def safeW (SS : List ByteArray) (CC : List Wr) : List ByteArray := CC.foldl (fun S x => S.set x.1.toNat x.2) SS
theorem safeW_len : ∀ (CC : List Wr) (SS : List ByteArray), (safeW SS CC).length = SS.length
  | [], _ => rfl
  | x :: r, SS => by
    show (safeW (SS.set x.1.toNat x.2) r).length = _
    rw [safeW_len r, List.length_set]
theorem safeW_snoc (SS : List ByteArray) (CC : List Wr) (x : Wr) : safeW SS (CC ++ [x]) = (safeW SS CC).set x.1.toNat x.2 := by unfold safeW; rw [List.foldl_append]; rfl
end Go.Proofs.YtagenkofoacajaaDoor
