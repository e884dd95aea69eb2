/- Contracts of the library's comparisons of strings, of name.mayHave, Check and the document's Is. -/
import Derived.Test.YtagenkofoacajaaDoorProg
import Derived.WalkKit
import Derived.Lib.Hide
import Derived.WalkSpells
import Derived.WalkLawsBesides
import Derived.LoopTactic
namespace Go.Proofs.YtagenkofoacajaaDoor
open Go.RowKit

/-- may a name have this byte? -/
def okc (c : UInt8) : Bool := (decide (97 ≤ c.toNat) && decide (c.toNat ≤ 122)) || (decide (48 ≤ c.toNat) && decide (c.toNat ≤ 57)) || decide (c.toNat = 45)
/-- is a text a name? -/
def nm (s : ByteArray) : Bool := decide (1 ≤ s.size) && decide (s.size ≤ 12) && s.data.toList.all okc
theorem ret_b2 {a b : Bool} (h : a = b) : Ending.returned (.bool a) = .returned (.bool b) := by rw [h]

theorem all_take (s : ByteArray) (k : Nat) (h : k < s.size) : (s.data.toList.take (k + 1)).all okc = ((s.data.toList.take k).all okc && okc s[k]) := by
  have e : s.data.toList.take (k + 1) = s.data.toList.take k ++ [s[k]] := by
    rw [List.take_succ_eq_append_getElem (by simpa using h)]; rfl
  rw [e]; simp
theorem nm_long (s : ByteArray) (h : s.size < 1 ∨ 12 < s.size) : nm s = false := by unfold nm; simp; omega
theorem nm_bad (s : ByteArray) (k : Nat) (h : k < s.size) (hb : okc s[k] = false) : nm s = false := by
  have : s.data.toList.all okc = false := by
    rw [List.all_eq_false]
    exact ⟨s.data[k], Array.mem_toList_iff.2 (Array.getElem_mem h), by rw [show s.data[k] = s[k] from rfl, hb]; simp⟩
  unfold nm; rw [this]; simp
theorem nm_good (s : ByteArray) (h1 : 1 ≤ s.size) (h2 : s.size ≤ 12) (h : (s.data.toList.take s.size).all okc = true) : nm s = true := by
  rw [List.take_of_length_le (by simp)] at h
  unfold nm; rw [h]; simp; omega

/-- what Check answers -/
def nck (s : ByteArray) : Int := if nm s then 0 else 2
theorem nck_no (s : ByteArray) (h : nm s = false) : nck s = 2 := by unfold nck; rw [h]; rfl
theorem nck_yes (s : ByteArray) (h : nm s = true) : nck s = 0 := by unfold nck; rw [h]; rfl
theorem ret_n {a b : Int} (h : a = b) : Ending.returned (.int .i64 a) = .returned (.int .i64 b) := by rw [h]

end Go.Proofs.YtagenkofoacajaaDoor
