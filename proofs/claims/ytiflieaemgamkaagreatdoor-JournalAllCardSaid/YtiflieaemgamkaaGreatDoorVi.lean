/- Plain facts on numbers to the base 128, as bytes. No program stands here. Conditions: numbers below 2 to the 64th where a lemma says so. -/
import Derived.WalkKit
import Derived.Laws.BitsAllLaws
namespace Go.Proofs.YtiflieaemgamkaaGreatDoor.Vi
open Go.RowKit

/-- a byte as a cell holds it -/
def bv (c : UInt8) : Value := .int .u8 (c.toNat : Int)

/-- the bytes of n, at most f of them -/
def leb : Nat → Nat → List UInt8
  | 0, _ => []
  | f + 1, n => if n < 128 then [UInt8.ofNat n] else UInt8.ofNat (n % 128 + 128) :: leb f (n / 128)

def put (n : Nat) : List UInt8 := leb 10 n

theorem leb_small (f n : Nat) (h : n < 128) : leb (f + 1) n = [UInt8.ofNat n] := by simp [leb, h]
theorem leb_big (f n : Nat) (h : 128 ≤ n) : leb (f + 1) n = UInt8.ofNat (n % 128 + 128) :: leb f (n / 128) := by
  rw [leb, if_neg (by omega)]

theorem leb_len : ∀ (f n : Nat), (leb f n).length ≤ f
  | 0, _ => by simp [leb]
  | f + 1, n => by
    rw [leb]; split
    · simp
    · simp only [List.length_cons]; have := leb_len f (n / 128); omega

theorem put_len (n : Nat) : (put n).length ≤ 10 := leb_len 10 n

theorem or128 : ∀ k : Fin 256, bits BinOp.or IntKind.u8 (k.val : Int) 128 = ((k.val % 128 + 128 : Nat) : Int) := by decide +kernel
theorem or128_wrap (n : Nat) : bits BinOp.or IntKind.u8 (IntKind.u8.wrap (n : Int)) 128 = ((n % 128 + 128 : Nat) : Int) := by
  have h : IntKind.u8.wrap (n : Int) = ((n % 256 : Nat) : Int) := by rw [IntKind.wrap_u8]; omega
  rw [h]
  have := or128 ⟨n % 256, by omega⟩
  simp only at this
  rw [this]; omega
theorem byte_nat (n : Nat) (h : n < 256) : (UInt8.ofNat n).toNat = n := by
  rw [UInt8.toNat_ofNat']; exact Nat.mod_eq_of_lt h
theorem u8_hi (n : Nat) : Value.int .u8 ((n % 128 + 128 : Nat) : Int) = bv (UInt8.ofNat (n % 128 + 128)) := by
  unfold bv; rw [byte_nat _ (by omega)]
theorem u8_lo (n : Nat) (h : n < 128) : Value.int .u8 (n : Int) = bv (UInt8.ofNat n) := by
  unfold bv; rw [byte_nat _ (by omega)]
theorem xor_ones (x : Nat) (h : x < 18446744073709551616) : 18446744073709551615 ^^^ x = 18446744073709551615 - x := by
  have := congrArg BitVec.toNat (BitVec.not_def (x := BitVec.ofNat 64 x))
  rw [BitVec.toNat_not, BitVec.toNat_xor, BitVec.toNat_allOnes, BitVec.toNat_ofNat, Nat.mod_eq_of_lt (by omega)] at this
  exact this.symm

/-- where a number of either sign stands, and the number that stands at a place -/
def zig (n : Int) : Nat := if n < 0 then (-2 * n - 1).toNat else (2 * n).toNat
def zag (u : Nat) : Int := if u % 2 = 0 then (u / 2 : Nat) else -1 - (u / 2 : Nat)
theorem zag_zig (n : Int) : zag (zig n) = n := by
  unfold zag zig; split <;> split <;> omega
theorem zig_zag (u : Nat) : zig (zag u) = u := by
  unfold zag zig; split <;> split <;> omega
theorem zig_le (n : Int) (h0 : -9223372036854775808 ≤ n) (h1 : n ≤ 9223372036854775807) : (zig n : Int) ≤ 18446744073709551615 := by
  unfold zig; split <;> omega
theorem zag_le (u : Nat) (h : (u : Int) ≤ 18446744073709551615) : -9223372036854775808 ≤ zag u ∧ zag u ≤ 9223372036854775807 := by
  unfold zag; split <;> omega
theorem zig_neg (n : Int) (h0 : -9223372036854775808 ≤ n) (h : n < 0) : bits BinOp.xor IntKind.u64 IntKind.u64.max (IntKind.u64.wrap (IntKind.u64.wrap n * 2)) = (zig n : Int) := by
  have e1 : IntKind.u64.wrap (IntKind.u64.wrap n * 2) = ((18446744073709551616 + 2 * n).toNat : Int) := by
    rw [IntKind.wrap_u64, IntKind.wrap_u64]; omega
  have e2 : IntKind.u64.max = ((18446744073709551615 : Nat) : Int) := by decide
  rw [e1, e2, u64_xor_nat _ _ (by omega) (by omega), xor_ones _ (by omega)]
  unfold zig; rw [if_pos h]; omega
theorem zig_pos (n : Int) (h : 0 ≤ n) : n * 2 = (zig n : Int) := by unfold zig; rw [if_neg (by omega)]; omega
theorem zig_neg2 (n : Int) (h : n < 0) : -(n + 1) * 2 + 1 = (zig n : Int) := by unfold zig; rw [if_pos h]; omega
end Go.Proofs.YtiflieaemgamkaaGreatDoor.Vi
