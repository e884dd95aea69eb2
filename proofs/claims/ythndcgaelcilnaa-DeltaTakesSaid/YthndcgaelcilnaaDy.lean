/- The document's Pieces of layer 11 over this translation. -/
import Derived.Test.YthndcgaelcilnaaDx
import Derived.Test.YthndcgaelcilnaaDp
namespace Go.Proofs.Ythndcgaelcilnaa
open Go.RowKit Vi

theorem take_grow (L : List UInt8) (o k : Nat) (h : o ≤ k) : (L.drop o).take (k - o) ++ (L.drop k).take 1 = (L.drop o).take (k + 1 - o) := by
  rw [show k + 1 - o = (k - o) + 1 by omega, List.take_add, List.drop_drop, show o + (k - o) = k by omega]
theorem pcsW_next (B T : List UInt8) (own i : Nat) (l : List Pc) (h : i + 8 ≤ T.length → stands B (win T i) = none) : pcsW B T own i l = pcsW B T own (i + 1) l := by
  by_cases h8 : i + 8 ≤ T.length
  · exact pcsW_none B T own i l h8 (h h8)
  · rw [pcsW_end B T own i l h8, pcsW_end B T own (i + 1) l (by omega)]
theorem pcsW_last (B T : List UInt8) (own : Nat) (l : List Pc) : pcsW B T own T.length l = addL l ((T.drop own).take (T.length - own)) := by
  rw [pcsW_end B T own _ l (by omega), List.take_of_length_le (by simp)]
theorem addL_nil (l : List Pc) (O : ByteArray) (h : O.size = 0) : addL l O.data.toList = l := by
  unfold addL; rw [if_pos (List.eq_nil_of_length_eq_zero (by simpa using h))]
theorem addL_one (l : List Pc) (O : ByteArray) (h : O.size ≠ 0) : addL l O.data.toList = l ++ [(false, 0, (O.size : Int), O)] := by
  unfold addL; rw [if_neg (fun e => h (by have := congrArg List.length e; simpa using this))]; simp
theorem emptyT (O : ByteArray) (h : O.size = 0) : O.toList.isEmpty = true := by
  rw [Lib.toList_data, List.eq_nil_of_length_eq_zero (show O.data.toList.length = 0 by simpa using h)]; rfl
theorem emptyF (O : ByteArray) (h : O.size ≠ 0) : O.toList.isEmpty = false := by
  rw [Lib.toList_data, List.isEmpty_eq_false_iff]; exact fun e => h (by have := congrArg List.length e; simpa using this)
theorem cpl_step2 (B T : ByteArray) (p k n j : Nat) (hb : p + j < B.size) (ht : k + j < T.size) (hn : n = cpl (B.data.toList.drop p) (T.data.toList.drop k)) (hc : n = j + cpl ((B.data.toList.drop p).drop j) ((T.data.toList.drop k).drop j)) :
    (B[p + j] = T[k + j] → j + 1 ≤ n ∧ n = (j + 1) + cpl ((B.data.toList.drop p).drop (j + 1)) ((T.data.toList.drop k).drop (j + 1))) ∧ (B[p + j] ≠ T[k + j] → j = n) := by
  have hb1 : j < (B.data.toList.drop p).length := by rw [List.length_drop]; have : B.data.toList.length = B.size := by simp
                                                     omega
  have ht1 : j < (T.data.toList.drop k).length := by rw [List.length_drop]; have : T.data.toList.length = T.size := by simp
                                                     omega
  have h := cpl_step _ _ j hb1 ht1 (hn ▸ hc)
  have e1 : (B.data.toList.drop p)[j] = B[p + j] := by rw [List.getElem_drop]; rfl
  have e2 : (T.data.toList.drop k)[j] = T[k + j] := by rw [List.getElem_drop]; rfl
  rw [e1, e2, ← hn] at h
  exact ⟨fun e => ⟨by have := h.1 e; omega, h.1 e⟩, fun e => (h.2 e).symm⟩
end Go.Proofs.Ythndcgaelcilnaa
