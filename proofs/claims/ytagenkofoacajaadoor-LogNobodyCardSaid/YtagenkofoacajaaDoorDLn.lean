/- The closure by which Crash keeps writes, and settle of those, over this translation. Condition: less than a million writes. -/
import Derived.Test.YtagenkofoacajaaDoorDLm
import Derived.Test.YtagenkofoacajaaDoorMPi
namespace Go.Proofs.YtagenkofoacajaaDoor
open Go.RowKit Vi

/-- the sectors when the writes of some numbers are safe -/
def setP (p : Nat → Bool) : Nat → List Wr → List ByteArray → List ByteArray
  | _, [], S => S
  | k, x :: r, S => setP p (k + 1) r (if p k = true then S.set x.1.toNat x.2 else S)
theorem setP_snoc (p : Nat → Bool) (x : Wr) : ∀ (l : List Wr) (k : Nat) (S : List ByteArray), setP p k (l ++ [x]) S = if p (k + l.length) = true then (setP p k l S).set x.1.toNat x.2 else setP p k l S
  | [], _, _ => rfl
  | y :: r, k, S => by
    show setP p (k + 1) (r ++ [x]) _ = _
    rw [setP_snoc p x r]
    show (if p (k + 1 + r.length) = true then _ else _) = if p (k + (r.length + 1)) = true then _ else _
    rw [show k + 1 + r.length = k + (r.length + 1) by omega]
    rfl
theorem setP_len (p : Nat → Bool) : ∀ (l : List Wr) (k : Nat) (S : List ByteArray), (setP p k l S).length = S.length
  | [], _, _ => rfl
  | x :: r, k, S => by
    show (setP p (k + 1) r _).length = _
    rw [setP_len p r]
    split
    · rw [List.length_set]
    · rfl
/-- is a number among those that are kept? -/
def inK (ks : List Int) (k : Nat) : Bool := ks.any fun x => x == (k : Int)
theorem wf_nat (k : Nat) (h : k ≤ 1000000) : (Lit.int .i64 (k : Int)).wf = true := by
  simp [Lit.wf, IntKind.min, IntKind.max, IntKind.bits, IntKind.signed]
  omega
end Go.Proofs.YtagenkofoacajaaDoor
