/- Plain facts: how a number, a text, a number of either sign and a rest are taken off what was put. No program stands here. -/
import Derived.Test.YtefhccegnjhhnabVm
import Derived.Lib.Split
namespace Go.Proofs.Ytefhccegnjhhnab.Vi
open Go.RowKit

theorem gb_put2 (n : Nat) (t : List UInt8) (h : (n : Int) ≤ 18446744073709551615) : gb (put n ++ t) = true ∧ gn (put n ++ t) = n ∧ gk (put n ++ t) = (put n).length := by
  have := get_put n t (by omega)
  simp [gb, gn, gk, this]

/-- what is put -/
def packed (a c : Nat) (s t : ByteArray) : ByteArray := ((((ByteArray.mk (put a).toArray) ++ (ByteArray.mk (put s.size).toArray ++ s)) ++ ByteArray.mk (put c).toArray) ++ t)
theorem packed_list (a c : Nat) (s t : ByteArray) : (packed a c s t).data.toList = put a ++ (put s.size ++ (s.data.toList ++ (put c ++ t.data.toList))) := by
  unfold packed; simp
theorem packed_size (a c : Nat) (s t : ByteArray) : (packed a c s t).size = (put a).length + ((put s.size).length + (s.size + ((put c).length + t.size))) := by
  have : (packed a c s t).size = (packed a c s t).data.toList.length := by simp
  rw [this, packed_list]; simp
theorem packed_0 (a c : Nat) (s t : ByteArray) : (packed a c s t).data.toList.drop 0 = put a ++ (put s.size ++ (s.data.toList ++ (put c ++ t.data.toList))) := by
  rw [packed_list]; rfl
theorem packed_1 (a c : Nat) (s t : ByteArray) : (packed a c s t).data.toList.drop (0 + (put a).length) = put s.size ++ (s.data.toList ++ (put c ++ t.data.toList)) := by
  rw [packed_list, Nat.zero_add, List.drop_left]
theorem packed_2 (a c : Nat) (s t : ByteArray) : (packed a c s t).data.toList.drop (0 + (put a).length + (put s.size).length) = s.data.toList ++ (put c ++ t.data.toList) := by
  rw [← List.drop_drop, packed_1, List.drop_left]
theorem packed_3 (a c : Nat) (s t : ByteArray) : (packed a c s t).data.toList.drop (0 + (put a).length + (put s.size).length + s.size) = put c ++ t.data.toList := by
  rw [← List.drop_drop, packed_2]
  have : s.size = s.data.toList.length := by simp
  rw [this, List.drop_left]
theorem packed_4 (a c : Nat) (s t : ByteArray) : (packed a c s t).data.toList.drop (0 + (put a).length + (put s.size).length + s.size + (put c).length) = t.data.toList := by
  rw [← List.drop_drop, packed_3, List.drop_left]
theorem ext_list' (s : ByteArray) (p : Nat) : (s.extract p s.size).data.toList = s.data.toList.drop p := by
  rw [ByteArray.data_extract, Array.toList_extract]
  simp only [List.extract]
  exact List.take_of_length_le (by simp)
theorem packed_text (a c : Nat) (s t : ByteArray) : ((packed a c s t).extract (0 + (put a).length + (put s.size).length) (packed a c s t).size).extract 0 s.size = s := by
  apply ByteArray.ext
  rw [← Array.toList_inj, Lib.extract_from_zero, ext_list', packed_2]
  have : s.size = s.data.toList.length := by simp
  rw [this, List.take_left]
theorem packed_rest (a c : Nat) (s t : ByteArray) : (packed a c s t).extract (0 + (put a).length + (put s.size).length + s.size + (put c).length) (packed a c s t).size = t := by
  apply ByteArray.ext
  rw [← Array.toList_inj, ext_list', packed_4]
end Go.Proofs.Ytefhccegnjhhnab.Vi
