/- The contract of sha.right over this translation: a word turned to the right. Conditions: words of 32 bits, turns of 1 to 31. -/
import Derived.Test.YtiflieaemgamkaaDoorProg
import Derived.Test.YtiflieaemgamkaaDoorHm
import Derived.WalkKit
import Derived.Handy
namespace Go.Proofs.YtiflieaemgamkaaDoor
open Go.RowKit Hm

set_option maxRecDepth 100000 in
theorem rot_any (x k : Nat) (w : World) (hx : x < 4294967296) (hk0 : 1 ≤ k) (hk1 : k ≤ 31) :
    Calls Tryd.prog 80 #[.int .u32 x, .int .i64 (-(k : Int))] w fun e w' => e = .returned (.int .u32 (rotr x k : Int)) ∧ w = w' := by
  have hcv : IntKind.u64.wrap (-(k : Int)) = 18446744073709551616 - (k : Int) := by simp [IntKind.wrap, IntKind.bits, IntKind.signed]; omega
  have hand : bits BinOp.and IntKind.u64 (18446744073709551616 - (k : Int)) 31 = 32 - (k : Int) := by
    have h := u64_and_nat (18446744073709551616 - k) 31 (by omega) (by omega)
    rw [show (31 : Nat) = 2 ^ 5 - 1 by rfl, Nat.and_two_pow_sub_one_eq_mod] at h
    rw [show ((18446744073709551616 - k : Nat) : Int) = 18446744073709551616 - (k : Int) by omega] at h
    rw [show ((2 ^ 5 - 1 : Nat) : Int) = 31 by rfl] at h
    rw [h]
    omega
  have hn : (32 - (k : Int)).toNat = 32 - k := by omega
  have hn0 : 0 ≤ 32 - (k : Int) := by omega
  have hn1 : 32 - (k : Int) ≤ 31 := by omega
  go_enter Tryd.func80, Tryd.ntmps80
  go_wp2
  have h32 : 32 - (32 - k) = k := by omega
  have ho := u32_or_nat (x * 2 ^ (32 - k) % 4294967296) (x / 2 ^ k) (Nat.mod_lt _ (by omega)) (div_lt x k hx)
  rw [Int.natCast_emod, Int.natCast_mul, Int.natCast_pow, Int.natCast_ediv, Int.natCast_pow] at ho
  rw [h32]
  go_ret
  refine ⟨?_, rfl⟩
  exact congrArg (fun z => Ending.returned (.int .u32 z)) ho

set_option maxRecDepth 100000 in
theorem right_any (x k : Nat) (w : World) (hx : x < 4294967296) (hk0 : 1 ≤ k) (hk1 : k ≤ 31) :
    Calls Tryd.prog 63 #[.int .u32 x, .int .i64 k] w fun e w' => e = .returned (.int .u32 (rotr x k : Int)) ∧ w = w' := by
  go_enter Tryd.func63, Tryd.ntmps63
  go_wp2_with (go_at_call 80; refine (rot_any x k _ hx hk0 hk1).mono ?_; rintro e w' ⟨rfl, rfl⟩)
  go_ret
  exact ⟨rfl, rfl⟩
/-- the same, the turn as the walk spells it -/
theorem right_at (x k : Nat) (z : Int) (hz : z = k) (w : World) (hx : x < 4294967296) (hk0 : 1 ≤ k) (hk1 : k ≤ 31) :
    Calls Tryd.prog 63 #[.int .u32 x, .int .i64 z] w fun e w' => e = .returned (.int .u32 (rotr x k : Int)) ∧ w = w' := by
  subst hz
  exact right_any x k w hx hk0 hk1
end Go.Proofs.YtiflieaemgamkaaDoor
