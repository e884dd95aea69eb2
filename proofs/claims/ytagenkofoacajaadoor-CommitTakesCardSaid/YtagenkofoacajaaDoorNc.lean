/- Contracts of name.Row and of the document's Row: whether texts are names, and rise. Condition: texts that fit a string. -/
import Derived.Test.YtagenkofoacajaaDoorNb
namespace Go.Proofs.YtagenkofoacajaaDoor
open Go.RowKit

/-- where a slice of texts lies -/
def SlN (w : World) (a : Option Addr) (len : Nat) (ss : List ByteArray) : Prop := ss.length = len ∧ (0 < len → ∃ b off, a = some ⟨b, off, none⟩ ∧ ∀ i, (h : i < ss.length) → w.cell? ⟨b, off + i, none⟩ = some (.string ss[i]))
/-- is a text not behind another one? -/
def leS (s p : ByteArray) : Bool := Op.bytesLess s.toList p.toList || (s.toList == p.toList)
theorem leS_cases (s p : ByteArray) : (Op.bytesLess s.toList p.toList = true ∧ leS s p = true) ∨ (Op.bytesLess s.toList p.toList = false ∧ (s.toList == p.toList) = true ∧ leS s p = true) ∨
    (Op.bytesLess s.toList p.toList = false ∧ (s.toList == p.toList) = false ∧ leS s p = false) := by
  unfold leS
  cases Op.bytesLess s.toList p.toList <;> cases (s.toList == p.toList) <;> simp
/-- what is wrong with a row, behind a text -/
def rowE (p : ByteArray) : List ByteArray → Int
  | [] => 0
  | s :: t => if nm s = false then 2 else if leS s p = true then 4 else rowE s t
theorem rowE_bad (p s : ByteArray) (t : List ByteArray) (h : nm s = false) : rowE p (s :: t) = 2 := by simp only [rowE]; rw [if_pos h]
theorem rowE_ord (p s : ByteArray) (t : List ByteArray) (h : nm s = true) (g : leS s p = true) : rowE p (s :: t) = 4 := by
  simp only [rowE]; rw [if_neg (by rw [h]; simp), if_pos g]
theorem rowE_go (p s : ByteArray) (t : List ByteArray) (h : nm s = true) (g : leS s p = false) : rowE p (s :: t) = rowE s t := by
  simp only [rowE]; rw [if_neg (by rw [h]; simp), if_neg (by rw [g]; simp)]
theorem le_nil (s : ByteArray) (h : nm s = true) : leS s ⟨#[]⟩ = false := by
  have hs : 1 ≤ s.size := by
    unfold nm at h
    rw [Bool.and_eq_true, Bool.and_eq_true] at h
    exact of_decide_eq_true h.1.1
  have hl : s.toList.length = s.size := by rw [ByteArray.toList_eq]; simp
  have e0 : (ByteArray.mk #[]).toList = [] := by rw [ByteArray.toList_eq]
  unfold leS
  rw [e0]
  cases hq : s.toList with
  | nil => rw [hq] at hl; simp at hl; omega
  | cons c t => simp [Op.bytesLess]


end Go.Proofs.YtagenkofoacajaaDoor
