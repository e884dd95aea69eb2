/- The document's readings of layer 4 that call others: Int, Text and Byte. Condition: texts of at most a million bytes. -/
import Derived.Test.YtagenkofoacajaaGreatDoorQa
import Derived.Deep.DeepCutAuto
namespace Go.Proofs.YtagenkofoacajaaGreatDoor
open Go.RowKit Vi

theorem wrap_one (c : UInt8) (h : 0 < (⟨#[c]⟩ : ByteArray).size) : wrap64 ((((⟨#[c]⟩ : ByteArray)[0]'h).toNat : Nat) : Int) = (c.toNat : Int) := by
  show wrap64 (c.toNat : Int) = _
  have := c.toNat_lt
  go_arith
theorem far_cell1 {w : World} {c i j : Nat} {x v : Value} (h : w.cell? ⟨c, j, none⟩ = some v) (hne : i ≠ j) : (w.setCell ⟨c, i, none⟩ x).cell? ⟨c, j, none⟩ = some v := by
  rw [World.cell?_setCell_other _ _ _ _ (addr_ne _ _ _ hne)]; exact h

end Go.Proofs.YtagenkofoacajaaGreatDoor
