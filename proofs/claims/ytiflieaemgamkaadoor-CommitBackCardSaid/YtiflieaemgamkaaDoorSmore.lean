/- Contracts of Scan.Int, Rest, Fail and End over this translation: what each piece answers, and how the Scan is then. Conditions: texts of at most a million bytes. -/
import Derived.Test.YtiflieaemgamkaaDoorSfix
import Derived.Test.YtiflieaemgamkaaDoorVget
namespace Go.Proofs.YtiflieaemgamkaaDoor
open Go.RowKit Vi

theorem ext_data2 (s : ByteArray) (p : Nat) : (s.extract p s.size).data.toList = s.data.toList.drop p := by
  rw [ByteArray.data_extract, Array.toList_extract]
  simp only [List.extract]
  exact List.take_of_length_le (by simp)









end Go.Proofs.YtiflieaemgamkaaDoor
