/- The contract of the document's Choose of layer 8 over this translation. Condition: texts of at most a thousand bytes. -/
import Derived.Test.YtiflieaemgamkaaGreatDoorYl
namespace Go.Proofs.YtiflieaemgamkaaGreatDoor
open Go.RowKit Vi Cm

theorem bst_x {a b c d : Int} (y : Int × Int × Int × Int) (h : a % 2 = 0) (h2 : 0 < a) : bst (a, b, c, d) y 1 = (a, b, c, d) := by rw [bst_one]; exact if_pos ⟨h, h2⟩
theorem bst_n {a b c d : Int} (y : Int × Int × Int × Int) (h : ¬ (a % 2 = 0 ∧ 0 < a)) : bst (a, b, c, d) y 1 = (0, 0, 0, 0) := by rw [bst_one]; exact if_neg h
theorem bst_y {x : Int × Int × Int × Int} {a b c d : Int} (h : a % 2 = 1) (h2 : (bst x (a, b, c, d) 1).1 < a) : bst x (a, b, c, d) 2 = (a, b, c, d) := by rw [bst_two]; exact if_pos ⟨h, h2⟩
theorem bst_k {x : Int × Int × Int × Int} {a b c d : Int} (h : ¬ (a % 2 = 1 ∧ (bst x (a, b, c, d) 1).1 < a)) : bst x (a, b, c, d) 2 = bst x (a, b, c, d) 1 := by rw [bst_two]; exact if_neg h
end Go.Proofs.YtiflieaemgamkaaGreatDoor
