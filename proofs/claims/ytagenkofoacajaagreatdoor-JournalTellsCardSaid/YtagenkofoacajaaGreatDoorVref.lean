/- Contracts of the document's own Digits, Put, Zig and Zag of layer 1 over this translation, for every number of 64 bits. -/
import Derived.Test.YtagenkofoacajaaGreatDoorVg
import Derived.Test.YtagenkofoacajaaGreatDoorVd
namespace Go.Proofs.YtagenkofoacajaaGreatDoor
open Go.RowKit Vi

theorem info_int : (Tryz.prog.info? 3).map (fun i => (i.zero, i.size, i.bytes)) = some (some (.int .i64 0), 1, 8) := by kernel_rfl

theorem own_one (w : World) (e : TypeId) (x : Value) : (w.alloc (.cells #[x] e)).ownsRow w.heap.size e 1 (.slice (some ⟨w.heap.size, 0, none⟩) 1 1) 1 [x] :=
  ⟨by simp, .inr ⟨w.heap.size, 1, #[x], rfl, Nat.le_refl _, heap_alloc_new _ _, by omega, by unfold maxLen; omega, rfl, rfl⟩⟩

theorem conv_one (w : World) (x : Int) (b : UInt8) (hx : x = (b.toNat : Int)) :
    (convert 81 9 (.slice (some ⟨w.heap.size, 0, none⟩) 1 1)).run Tryz.prog (w.alloc (.cells #[.int .u8 x] 5)) = .ok (.string ⟨#[b]⟩) (w.alloc (.cells #[.int .u8 x] 5)) := by
  subst hx
  exact conv_own (xs := [b]) (own_one w 5 (bv b))



end Go.Proofs.YtagenkofoacajaaGreatDoor
