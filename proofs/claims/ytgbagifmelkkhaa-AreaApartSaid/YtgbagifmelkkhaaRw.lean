/- The example of layer 9's chapter holds over this translation. No condition. -/
import Derived.Test.YtgbagifmelkkhaaRb
namespace Go.Proofs.Ytgbagifmelkkhaa
open Go.RowKit Ar

set_option maxHeartbeats 400000 in
theorem areaAwake_any (w : World) : Calls Try.prog 24 #[] w fun e w' => e = .returned (.bool true) ∧ w = w' := by
  have e1 : pl 16 0 0 = .tuple #[.int .i64 8, .int .i64 0] := rfl
  have e2 : hf 16 = 7 := rfl
  have e3 : fs 16 1 = 9 := rfl
  have E1 := Lib.hid e1
  have E2 := Lib.hid e2
  have E3 := Lib.hid e3
  clear e1 e2 e3
  go_enter Try.func24, Try.ntmps24
  go_wp2_with fail
  refine (place_any 16 0 0 _ (by omega) (by omega) (by omega) (by omega)).mono ?_
  rintro e w' ⟨rfl, rfl⟩
  rw [E1.out]
  go_wp2_with fail
  refine (half_any 16 _ (by omega) (by omega)).mono ?_
  rintro e w' ⟨rfl, rfl⟩
  rw [E2.out]
  go_wp2_with fail
  refine (first_any 16 1 _ (by omega) (by omega)).mono ?_
  rintro e w' ⟨rfl, rfl⟩
  rw [E3.out]
  go_wp2
  go_ret
  exact ⟨rfl, rfl⟩
end Go.Proofs.Ytgbagifmelkkhaa
