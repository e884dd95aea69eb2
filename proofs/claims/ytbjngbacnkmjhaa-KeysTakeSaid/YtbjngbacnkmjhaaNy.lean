/- Contracts of the statements' Bytes and few over rows of texts; NameChecks. -/
import Derived.Test.YtbjngbacnkmjhaaNw
namespace Go.Proofs.Ytbjngbacnkmjhaa
open Go.RowKit

def nsum (ss : List ByteArray) : Nat := (ss.map (·.size)).sum
theorem nsum_app (a b : List ByteArray) : nsum (a ++ b) = nsum a + nsum b := by
  simp only [nsum, List.map_append, List.sum_append]
theorem nsum_take (ss : List ByteArray) (k : Nat) (h : k < ss.length) : nsum (ss.take (k + 1)) = nsum (ss.take k) + ss[k].size := by
  rw [List.take_succ_eq_append_getElem h]; simp only [nsum, List.map_append, List.sum_append, List.map_cons, List.map_nil, List.sum_cons, List.sum_nil]; omega
theorem nsum_le (ss : List ByteArray) : ∀ s ∈ ss, s.size ≤ nsum ss := by
  intro s hs
  induction ss with
  | nil => cases hs
  | cons a r ih =>
    simp only [nsum, List.map_cons, List.sum_cons] at ih ⊢
    rcases List.mem_cons.1 hs with rfl | hs
    · omega
    · have := ih hs; omega
/-- few, or not -/
def FewIs (w : World) (e : Ending) (w' : World) : Prop := ∃ b : Bool, e = .returned (.bool b) ∧ w = w'
end Go.Proofs.Ytbjngbacnkmjhaa
