/- The chapter's example of layer 8 and the statement on Full over this translation. Condition: the table of crc. -/
import Derived.Test.YtiflieaemgamkaaGreatDoorZb
import Derived.Test.YtiflieaemgamkaaGreatDoorYm
namespace Go.Proofs.YtiflieaemgamkaaGreatDoor
open Go.RowKit Vi Cm

theorem noughts_none : ¬ IsHead (noughts 128) := by
  intro ⟨a, b, c, d, _, h⟩
  have h1 := (head_front a b c d).2
  rw [← h] at h1
  have h2 : (bareT (noughts 128)).size = 0 := by decide +kernel
  rw [h1, sealH_size] at h2
  omega
theorem bst_aw : bst (0, 0, 0, 0) (1, 0, 0, 1) 2 = (1, 0, 0, 1) := by decide +kernel
namespace LSeatFull
end LSeatFull
end Go.Proofs.YtiflieaemgamkaaGreatDoor
