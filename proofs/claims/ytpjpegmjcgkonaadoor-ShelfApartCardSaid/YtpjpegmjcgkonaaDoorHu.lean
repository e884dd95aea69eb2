/- The contracts of sha.digitOf, Unhex, and of the document's own Hex, place, Unhex over this translation. Conditions: texts of at most a million bytes. -/
import Derived.Test.YtpjpegmjcgkonaaDoorHe
import Derived.Deep.QuietTactic
import Derived.BigQuiet
namespace Go.Proofs.YtpjpegmjcgkonaaDoor
open Go.RowKit Hm

/-- what a digit counts, or -1 -/
def digI (c : UInt8) : Int := match dig c with | some x => (x : Int) | none => -1
theorem digI_lo (c : UInt8) (h1 : 48 ≤ c.toNat) (h2 : c.toNat ≤ 57) : digI c = (c.toNat : Int) - 48 := by
  unfold digI dig
  rw [if_pos ⟨h1, h2⟩]
  show ((c.toNat - 48 : Nat) : Int) = _
  omega
theorem digI_hi (c : UInt8) (h1 : 97 ≤ c.toNat) (h2 : c.toNat ≤ 102) : digI c = (c.toNat : Int) - 97 + 10 := by
  unfold digI dig
  rw [if_neg (by omega), if_pos ⟨h1, h2⟩]
  show ((c.toNat - 87 : Nat) : Int) = _
  omega
theorem digI_no (c : UInt8) (h1 : ¬ (48 ≤ c.toNat ∧ c.toNat ≤ 57)) (h2 : ¬ (97 ≤ c.toNat ∧ c.toNat ≤ 102)) : digI c = -1 := by
  unfold digI dig
  rw [if_neg h1, if_neg h2]
theorem digI_bd (c : UInt8) : -1 ≤ digI c ∧ digI c ≤ 15 := by
  by_cases h1 : 48 ≤ c.toNat ∧ c.toNat ≤ 57
  · rw [digI_lo c h1.1 h1.2]; omega
  · by_cases h2 : 97 ≤ c.toNat ∧ c.toNat ≤ 102
    · rw [digI_hi c h2.1 h2.2]; omega
    · rw [digI_no c h1 h2]; omega
theorem digI_some (c : UInt8) (x : Nat) (h : dig c = some x) : digI c = (x : Int) := by unfold digI; rw [h]
theorem digI_none (c : UInt8) (h : dig c = none) : digI c = -1 := by unfold digI; rw [h]
theorem retI {k : IntKind} {a b : Int} (h : a = b) : Ending.returned (.int k a) = .returned (.int k b) := by rw [h]
/-- the document's: 16, if it is none -/
def plcI (c : UInt8) : Int := match dig c with | some x => (x : Int) | none => 16
theorem plcI_some (c : UInt8) (x : Nat) (h : dig c = some x) : plcI c = (x : Int) := by unfold plcI; rw [h]
theorem plcI_none (c : UInt8) (h : dig c = none) : plcI c = 16 := by unfold plcI; rw [h]
theorem plcI_bd (c : UInt8) : 0 ≤ plcI c ∧ plcI c ≤ 16 := by
  unfold plcI
  cases h : dig c with
  | none => simp
  | some x => have := (hexd_dig c x h).1; simp only; omega
theorem dig_is (c : UInt8) (k : Nat) (hk : k < 16) : (hexd k = c) = (dig c = some k) := by
  apply propext
  constructor
  · intro h; rw [← h]; exact dig_hexd k hk
  · intro h; exact (hexd_dig c k h).2
theorem eq_u8 (a b : UInt8) (h : a ≠ b) : ((a.toNat : Int) == (b.toNat : Int)) = false := by
  rw [beq_eq_false_iff_ne]
  intro e
  exact h (UInt8.toNat_inj.1 (by omega))
end Go.Proofs.YtpjpegmjcgkonaaDoor
