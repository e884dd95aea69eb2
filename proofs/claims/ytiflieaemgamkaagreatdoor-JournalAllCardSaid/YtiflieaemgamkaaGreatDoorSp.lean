/- The pieces of layer 4 as plain functions of the bytes, how far they are read, and the error. No condition. -/
import Derived.Test.YtiflieaemgamkaaGreatDoorVm
import Derived.Test.YtiflieaemgamkaaGreatDoorVi
import Derived.Test.YtiflieaemgamkaaGreatDoorVd
namespace Go.Proofs.YtiflieaemgamkaaGreatDoor.Rd
open Go.RowKit Vi
/-- a Fix: what is read, how far, the error -/
def fix (S : ByteArray) (q : Nat) (er n : Int) : ByteArray × Nat × Int :=
  if er ≠ 0 then (⟨#[]⟩, q, er) else if n < 0 ∨ (S.size : Int) - q < n then (⟨#[]⟩, q, 3) else ((S.extract q S.size).extract 0 n.toNat, q + n.toNat, 0)
def num (S : ByteArray) (q : Nat) (er most : Int) : Int × Nat × Int :=
  if er ≠ 0 then (0, q, er) else if gb (S.data.toList.drop q) = false then (0, q, 3) else if most < 0 ∨ most < gn (S.data.toList.drop q) then (0, q, 5)
  else ((gn (S.data.toList.drop q) : Int), q + gk (S.data.toList.drop q), 0)
def int (S : ByteArray) (q : Nat) (er : Int) : Int × Nat × Int :=
  if er ≠ 0 then (0, q, er) else if gb (S.data.toList.drop q) = false then (0, q, 3) else (zag (gn (S.data.toList.drop q)), q + gk (S.data.toList.drop q), 0)
def text (S : ByteArray) (q : Nat) (er most : Int) : ByteArray × Nat × Int :=
  fix S (num S q er most).2.1 (num S q er most).2.2 (num S q er most).1
def byte (S : ByteArray) (q : Nat) (er : Int) : Int × Nat × Int :=
  if er ≠ 0 then (0, q, er) else if h : q < S.size then ((S[q].toNat : Int), q + 1, 0) else (0, q, 3)
def rest (S : ByteArray) (q : Nat) (er : Int) : ByteArray × Nat × Int :=
  if er ≠ 0 then (⟨#[]⟩, q, er) else (S.extract q S.size, S.size, 0)
def fail (er ex : Int) : Int := if er ≠ 0 then er else ex
def fin (S : ByteArray) (q : Nat) (er : Int) : Int := if er ≠ 0 then er else if q < S.size then 3 else 0

theorem fix_le (S : ByteArray) (q : Nat) (er n : Int) (hq : q ≤ S.size) : (fix S q er n).2.1 ≤ S.size := by
  unfold fix; split
  · exact hq
  · split
    · exact hq
    · simp only; omega
theorem drop_len (S : ByteArray) (q : Nat) : (S.data.toList.drop q).length = S.size - q := by simp
theorem num_le (S : ByteArray) (q : Nat) (er n : Int) (hq : q ≤ S.size) : (num S q er n).2.1 ≤ S.size := by
  have h1 := gk_le (S.data.toList.drop q)
  rw [drop_len] at h1
  unfold num; split
  · exact hq
  · split
    · exact hq
    · split
      · exact hq
      · simp only; omega
theorem int_le (S : ByteArray) (q : Nat) (er : Int) (hq : q ≤ S.size) : (int S q er).2.1 ≤ S.size := by
  have h1 := gk_le (S.data.toList.drop q)
  rw [drop_len] at h1
  unfold int; split
  · exact hq
  · split
    · exact hq
    · simp only; omega
theorem text_le (S : ByteArray) (q : Nat) (er n : Int) (hq : q ≤ S.size) : (text S q er n).2.1 ≤ S.size := fix_le _ _ _ _ (num_le S q er n hq)
theorem byte_le (S : ByteArray) (q : Nat) (er : Int) (hq : q ≤ S.size) : (byte S q er).2.1 ≤ S.size := by
  unfold byte; split
  · exact hq
  · split
    · simp only; omega
    · exact hq
theorem rest_le (S : ByteArray) (q : Nat) (er : Int) (hq : q ≤ S.size) : (rest S q er).2.1 ≤ S.size := by
  unfold rest; split
  · exact hq
  · exact Nat.le_refl _
theorem num_bd (S : ByteArray) (q : Nat) (er n : Int) (hn : n ≤ 9223372036854775807) : 0 ≤ (num S q er n).1 ∧ (num S q er n).1 ≤ 9223372036854775807 := by
  unfold num; split
  · simp
  · split
    · simp
    · split
      · simp
      · simp only; omega
theorem byte_bd (S : ByteArray) (q : Nat) (er : Int) : 0 ≤ (byte S q er).1 ∧ (byte S q er).1 ≤ 255 := by
  unfold byte; split
  · simp
  · split
    · rename_i h; have := S[q].toNat_lt; simp only; omega
    · simp
theorem fix_size (S : ByteArray) (q : Nat) (er n : Int) : (fix S q er n).1.size ≤ S.size := by
  unfold fix; split
  · exact Nat.zero_le _
  · split
    · exact Nat.zero_le _
    · simp only [ByteArray.size_extract]; omega
theorem rest_size (S : ByteArray) (q : Nat) (er : Int) : (rest S q er).1.size ≤ S.size := by
  unfold rest; split
  · exact Nat.zero_le _
  · simp only [ByteArray.size_extract]; omega
/-- the error is the first one, or 3 or 5 -/
theorem er_num (S : ByteArray) (q : Nat) (er n : Int) : (num S q er n).2.2 = er ∨ (num S q er n).2.2 = 3 ∨ (num S q er n).2.2 = 5 ∨ (num S q er n).2.2 = 0 := by
  unfold num; split
  · exact Or.inl rfl
  · split
    · exact Or.inr (Or.inl rfl)
    · split
      · exact Or.inr (Or.inr (Or.inl rfl))
      · exact Or.inr (Or.inr (Or.inr rfl))
theorem er_fix (S : ByteArray) (q : Nat) (er n : Int) : (fix S q er n).2.2 = er ∨ (fix S q er n).2.2 = 3 ∨ (fix S q er n).2.2 = 0 := by
  unfold fix; split
  · exact Or.inl rfl
  · split
    · exact Or.inr (Or.inl rfl)
    · exact Or.inr (Or.inr rfl)
end Go.Proofs.YtiflieaemgamkaaGreatDoor.Rd
