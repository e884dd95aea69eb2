/- The contract of the document's Bare of layer 8 over this translation. Condition: texts of at most a thousand bytes. -/
import Derived.Test.YtagenkofoacajaaGreatDoorYe
namespace Go.Proofs.YtagenkofoacajaaGreatDoor
open Go.RowKit Vi Cm

theorem all_at (S : ByteArray) (q : Nat) : (S.data.toList.drop q).all (fun c => c == 0) = true ↔ ∀ k (h : k < S.size), q ≤ k → S[k] = 0 := by
  rw [List.all_eq_true]
  constructor
  · intro h k hk hq
    have hm : S[k] ∈ S.data.toList.drop q := by
      rw [List.mem_drop_iff_getElem]
      refine ⟨k - q, by rw [ba_len]; omega, ?_⟩
      have e : q + (k - q) = k := by omega
      simp only [e]
      rfl
    simpa using h _ hm
  · intro h c hc
    rw [List.mem_drop_iff_getElem] at hc
    obtain ⟨i, hi, rfl⟩ := hc
    rw [ba_len] at hi
    have h1 := h (q + i) (by omega) (by omega)
    have e : S.data.toList[q + i]'(by rw [ba_len]; omega) = S[q + i]'(by omega) := rfl
    rw [e, h1]
    rfl
theorem rbareV_no {S : ByteArray} (h : bareB S = false) : rbareV S = .tuple #[.string ⟨#[]⟩, .bool false] := by unfold rbareV; rw [h]; rfl
end Go.Proofs.YtagenkofoacajaaGreatDoor
