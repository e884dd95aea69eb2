/- Contracts of math/bits.Len64 and varint.Size over this translation, for every number of 64 bits. -/
import Derived.Test.YtefhccegnjhhnaaVg
import Derived.Test.YtefhccegnjhhnaaVlen
namespace Go.Proofs.Ytefhccegnjhhnaa
open Go.RowKit Vi

set_option maxHeartbeats 4000000 in
set_option maxRecDepth 100000 in
theorem len64_any (x : Int) (w : World) (h0 : 0 ≤ x) (hx : x ≤ 18446744073709551615) :
    Calls Try.prog 30 #[.int .u64 x] w fun e w' => e = .returned (.int .i64 (Lib.bitLen x.toNat)) ∧ w = w' := by
  have hl := Lib.len8tab_size
  go_enter Try.func30, Try.ntmps30
  go_wp2
  all_goals (go_ret; refine ⟨congrArg Ending.returned (congrArg (Value.int IntKind.i64) ?_), rfl⟩)
  all_goals first
    | (rw [tab_sum 56 _ (by omega) (by omega)  (by omega) (by omega)]
       have e : (x / 4294967296 / 65536 / 256).toNat = x.toNat / 72057594037927936 := by omega
       have s := Lib.bitLen_shift56 x.toNat (by omega) (by omega)
       rw [e]; omega)
    | (rw [tab_sum 48 _ (by omega) (by omega)  (by omega) (by omega)]
       have e : (x / 4294967296 / 65536).toNat = x.toNat / 281474976710656 := by omega
       have s := Lib.bitLen_shift48 x.toNat (by omega) (by omega)
       rw [e]; omega)
    | (rw [tab_sum 40 _ (by omega) (by omega)  (by omega) (by omega)]
       have e : (x / 4294967296 / 256).toNat = x.toNat / 1099511627776 := by omega
       have s := Lib.bitLen_shift40 x.toNat (by omega) (by omega)
       rw [e]; omega)
    | (rw [tab_sum 32 _ (by omega) (by omega)  (by omega) (by omega)]
       have e : (x / 4294967296).toNat = x.toNat / 4294967296 := by omega
       have s := Lib.bitLen_shift32 x.toNat (by omega) (by omega)
       rw [e]; omega)
    | (rw [tab_sum 24 _ (by omega) (by omega)  (by omega) (by omega)]
       have e : (x / 65536 / 256).toNat = x.toNat / 16777216 := by omega
       have s := Lib.bitLen_shift24 x.toNat (by omega) (by omega)
       rw [e]; omega)
    | (rw [tab_sum 16 _ (by omega) (by omega)  (by omega) (by omega)]
       have e : (x / 65536).toNat = x.toNat / 65536 := by omega
       have s := Lib.bitLen_shift16 x.toNat (by omega) (by omega)
       rw [e]; omega)
    | (rw [tab_sum 8 _ (by omega) (by omega)  (by omega) (by omega)]
       have e : (x / 256).toNat = x.toNat / 256 := by omega
       have s := Lib.bitLen_shift8 x.toNat (by omega) (by omega)
       rw [e]; omega)
    | (rw [tab_one _ (by omega) (by omega)])

set_option maxHeartbeats 400000 in
set_option maxRecDepth 100000 in
theorem size_any (n : Nat) (w : World) (hn : (n : Int) ≤ 18446744073709551615) :
    Calls Try.prog 13 #[.int .u64 n] w fun e w' => e = .returned (.int .i64 (put n).length) ∧ w = w' := by
  have e1 : bits BinOp.or IntKind.u64 (n : Int) 1 = ((n ||| 1 : Nat) : Int) := u64_or_nat n 1 (by omega) (by omega)
  have E1 := Lib.hid e1; clear e1
  have hor : ((n ||| 1 : Nat) : Int) ≤ 18446744073709551615 := by rw [or_one]; omega
  have hsz := Lib.hid (size_is n hn)
  have hb := Lib.bitLen_le (n ||| 1) 64 (Nat.le_refl _) (by omega)
  go_enter Try.func13, Try.ntmps13
  go_wp2_with fail
  rw [E1.out]
  refine (len64_any ((n ||| 1 : Nat) : Int) _ (by omega) hor).mono ?_
  rintro e w' ⟨rfl, rfl⟩
  rw [Int.toNat_natCast]
  generalize Lib.bitLen (n ||| 1) = b at *
  clear E1 hor
  go_wp2
  go_ret
  refine ⟨ret_val ?_, rfl⟩
  rw [← hsz.out]; omega
end Go.Proofs.Ytefhccegnjhhnaa
