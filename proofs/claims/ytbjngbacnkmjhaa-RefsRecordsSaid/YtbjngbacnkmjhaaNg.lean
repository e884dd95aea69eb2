/- The contract of name.With where the name is not there and would stand at the end of a row that fills its array. -/
import Derived.Test.YtbjngbacnkmjhaaNf
namespace Go.Proofs.Ytbjngbacnkmjhaa
open Go.RowKit

set_option maxRecDepth 100000 in
set_option maxHeartbeats 1600000 in
theorem withEnd_any (b off len : Nat) (ss : List ByteArray) (x : ByteArray) (w : World) (hsl : SlN w (some ⟨b, off, none⟩) len ss) (hlm : len ≤ 1000000) (hK : Cut ss x len) (hm : metB ss x len = false) :
    Calls Try.prog 324 #[.slice (some ⟨b, off, none⟩) len len, .string x] w fun e w' => e = .returned (.tuple #[.slice (some ⟨w.heap.size, 0, none⟩) (len + 1) (len + 1), .bool true]) ∧ w'.heap[w.heap.size]? = some (.cells ((ss ++ [x]).map stv).toArray 9 (0, 0)) ∧ Below w.heap.size w w' := by
  have HM := Lib.hid hm
  have HK := Lib.hid hK
  have HS := Lib.hid hsl
  clear hm hK hsl
  have hk0 : 0 ≤ (len : Int) := by omega
  have hk4 : (len : Int) ≤ 1000000 := by omega
  go_enter Try.func324, Try.ntmps324
  go_wp2_with fail
  refine (find_any (some ⟨b, off, none⟩) len len ss x len w HS.out hlm HK.out).mono ?_
  rintro e w' ⟨rfl, rfl⟩
  rw [HM.out]
  go_wp2_with fail
  go_region_with ((go_at_call 334; refine (join_any (some ⟨b, off, none⟩) len len ss x (some ⟨b, off, none⟩) 0 0 [] _ ?_ ?_ (by omega) (by omega)).mono ?_; (exact HS.out); (exact ⟨rfl, fun h => absurd h (by omega)⟩); rintro e w2 ⟨rfl, hg, hb⟩))
  all_goals go_wp2
  all_goals go_ret2
  all_goals exact ⟨rfl, hg, ((Below.refl _ w).drew).trans hb⟩
end Go.Proofs.Ytbjngbacnkmjhaa
