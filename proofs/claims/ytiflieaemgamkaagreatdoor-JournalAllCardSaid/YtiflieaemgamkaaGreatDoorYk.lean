/- The contracts of seat.Next and of the document's Next of layer 8 over this translation. No condition. -/
import Derived.Test.YtiflieaemgamkaaGreatDoorYj
namespace Go.Proofs.YtiflieaemgamkaaGreatDoor
open Go.RowKit Vi Cm

/-- what Next answers -/
def nxE (a b c d p n : Int) : Int := if hok a b c d = true then (if a = 4294967295 then 5 else if hok (a + 1) (1 - b) p n = true then 0 else 2) else 2
def nxH (a b c d p n : Int) : Array Value := if nxE a b c d p n = 0 then hv (a + 1) (1 - b) p n else hv 0 0 0 0
def nxV (a b c d p n : Int) : Value := .tuple #[.agg (nxH a b c d p n), .int .i64 (nxE a b c d p n)]
theorem nx_wrong {a b c d p n : Int} (h : hok a b c d = false) : nxV a b c d p n = .tuple #[.agg (hv 0 0 0 0), .int .i64 2] := by
  have e : nxE a b c d p n = 2 := by unfold nxE; rw [h]; rfl
  unfold nxV nxH; rw [e]; rfl
theorem nx_last {a b c d p n : Int} (h : hok a b c d = true) (ha : a = 4294967295) : nxV a b c d p n = .tuple #[.agg (hv 0 0 0 0), .int .i64 5] := by
  have e : nxE a b c d p n = 5 := by unfold nxE; rw [if_pos h, if_pos ha]
  unfold nxV nxH; rw [e]; rfl
theorem nx_not {a b c d p n : Int} (h : hok a b c d = true) (ha : a ≠ 4294967295) (h2 : hok (a + 1) (1 - b) p n = false) : nxV a b c d p n = .tuple #[.agg (hv 0 0 0 0), .int .i64 2] := by
  have e : nxE a b c d p n = 2 := by unfold nxE; rw [if_pos h, if_neg ha, if_neg (by rw [h2]; simp)]
  unfold nxV nxH; rw [e]; rfl
theorem nx_ok {a b c d p n : Int} (h : hok a b c d = true) (ha : a ≠ 4294967295) (h2 : hok (a + 1) (1 - b) p n = true) : nxV a b c d p n = .tuple #[.agg (hv (a + 1) (1 - b) p n), .int .i64 0] := by
  have e : nxE a b c d p n = 0 := by unfold nxE; rw [if_pos h, if_neg ha, if_pos h2]
  unfold nxV nxH; rw [e]; rfl
end Go.Proofs.YtiflieaemgamkaaGreatDoor
