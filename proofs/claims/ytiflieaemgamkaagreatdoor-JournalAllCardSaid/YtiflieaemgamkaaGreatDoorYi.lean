/- The contract of the document's Take of layer 8 over this translation. Condition: texts of at most a thousand bytes. -/
import Derived.Test.YtiflieaemgamkaaGreatDoorZb
import Derived.Test.YtiflieaemgamkaaGreatDoorYh
namespace Go.Proofs.YtiflieaemgamkaaGreatDoor
open Go.RowKit Vi Cm

theorem sv_scv (S : ByteArray) (q : Nat) (er : Int) : sv S q er = .agg (scv S q er) := rfl
theorem rnum_scv (S : ByteArray) (q : Nat) (er n v : Int) (q' : Nat) (er' : Int) (w : World) (hS : S.size ≤ 1000000) (hq : q ≤ S.size) (hn0 : -9223372036854775808 ≤ n) (hn1 : n ≤ 9223372036854775807) (h : Rd.num S q er n = (v, q', er')) :
    Calls Tryz.prog 145 #[.agg (scv S q er), .int .i64 n] w fun e w' => e = .returned (.tuple #[.agg (scv S q' er'), .int .i64 v]) ∧ Below w.heap.size w w' := by
  have h1 := rNum_any S q er n w hS hq hn0 hn1
  rw [h] at h1
  exact h1
end Go.Proofs.YtiflieaemgamkaaGreatDoor
