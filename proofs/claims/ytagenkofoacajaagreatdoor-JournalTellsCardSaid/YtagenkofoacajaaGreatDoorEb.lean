/- The contract of the document's Is of layer 10 over this translation. Condition: texts that fit a string. -/
import Derived.Test.YtagenkofoacajaaGreatDoorEa
namespace Go.Proofs.YtagenkofoacajaaGreatDoor
open Go.RowKit Vi Cm

theorem wth_lo {x lo hi : Int} (h : x < lo) : wthB x lo hi = false := by unfold wthB; rw [decide_eq_false (by omega)]; rfl
theorem wth_hi {x lo hi : Int} (h : hi < x) : wthB x lo hi = false := by unfold wthB; rw [decide_eq_false (p := x ≤ hi) (by omega)]; simp
theorem wth_ok {x lo hi : Int} (h : ¬ x < lo) (h2 : ¬ hi < x) : wthB x lo hi = true := by unfold wthB; rw [decide_eq_true (by omega), decide_eq_true (p := x ≤ hi) (by omega)]; rfl
end Go.Proofs.YtagenkofoacajaaGreatDoor
