/- The contract of seat.Choose over this translation. Conditions: texts of at most a thousand bytes; the table of crc. -/
import Derived.Test.YtiflieaemgamkaaGreatDoorZb
import Derived.Test.YtiflieaemgamkaaGreatDoorYk
import Derived.RegionTactic
import Derived.ChangeAlike
import Derived.Deep.RegionHeld3
namespace Go.Proofs.YtiflieaemgamkaaGreatDoor
open Go.RowKit Vi Cm

/-- the head that counts, behind so many sectors -/
def bst (x y : Int × Int × Int × Int) : Nat → Int × Int × Int × Int
  | 0 => (0, 0, 0, 0)
  | 1 => if x.1 % 2 = 0 ∧ 0 < x.1 then x else (0, 0, 0, 0)
  | _ => if y.1 % 2 = 1 ∧ (if x.1 % 2 = 0 ∧ 0 < x.1 then x else (0, 0, 0, 0)).1 < y.1 then y else (if x.1 % 2 = 0 ∧ 0 < x.1 then x else (0, 0, 0, 0))
theorem bst_one (x y : Int × Int × Int × Int) : bst x y 1 = if x.1 % 2 = 0 ∧ 0 < x.1 then x else (0, 0, 0, 0) := rfl
theorem bst_two (x y : Int × Int × Int × Int) : bst x y 2 = if y.1 % 2 = 1 ∧ (bst x y 1).1 < y.1 then y else bst x y 1 := rfl
theorem bst_good (x y : Int × Int × Int × Int) (hx : (x = (0, 0, 0, 0)) ∨ 1 ≤ x.1) (hy : (y = (0, 0, 0, 0)) ∨ 1 ≤ y.1) : ∀ k, (bst x y k = (0, 0, 0, 0)) ∨ 1 ≤ (bst x y k).1 := by
  have h1 : (bst x y 1 = (0, 0, 0, 0)) ∨ 1 ≤ (bst x y 1).1 := by
    rw [bst_one]
    split
    · exact hx
    · exact Or.inl rfl
  intro k
  match k with
  | 0 => exact Or.inl rfl
  | 1 => exact h1
  | k + 2 =>
    show (bst x y 2 = (0, 0, 0, 0)) ∨ 1 ≤ (bst x y 2).1
    rw [bst_two]
    split
    · exact hy
    · exact h1
theorem index2Y (a b : ByteArray) (k : Nat) (v : ByteArray) (hk : k < 2) (hv : ([a, b] : List ByteArray).getD k ⟨#[]⟩ = v) (z : Int) (hz : z = (k : Int)) (W : World) : (Instr.index 125 (.agg #[.string a, .string b]) (.int .i64 z)).run Tryz.prog W = .ok (.string v) W := by
  subst hz
  have hs : ∀ W, (sizeOf 9).run Tryz.prog W = .ok 1 W := fun W => by
    obtain ⟨i0, hi, _, hz1, _⟩ := info_parts (show (Tryz.prog.info? 9).map (fun i => (i.zero, i.size, i.bytes)) = some (some (.string ⟨#[]⟩), 1, 16) by kernel_rfl)
    simp [sizeOf, typeInfo, hi, hz1]
  subst hv
  rcases (show k = 0 ∨ k = 1 by omega) with rfl | rfl <;> simp [Instr.index, run_underlying Tryz.underlying125, asIntOf, hs, go_sem]
def chB (t : Int × Int × Int × Int) : Bool := decide (0 < t.1)
end Go.Proofs.YtiflieaemgamkaaGreatDoor
