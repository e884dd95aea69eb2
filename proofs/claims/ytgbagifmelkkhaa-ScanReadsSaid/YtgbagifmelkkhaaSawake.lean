/- The chapter's example of layer 4 holds over this translation. No condition. -/
import Derived.Test.YtgbagifmelkkhaaSend
namespace Go.Proofs.Ytgbagifmelkkhaa
open Go.RowKit Vi

theorem aw_b : gb ((ByteArray.mk #[2, 97, 98, 1]).data.toList.drop 0) = true := by rfl
theorem aw_n : gn ((ByteArray.mk #[2, 97, 98, 1]).data.toList.drop 0) = 2 := by rfl
theorem aw_k : gk ((ByteArray.mk #[2, 97, 98, 1]).data.toList.drop 0) = 1 := by rfl
theorem aw_b2 : gb ((ByteArray.mk #[2, 97, 98, 1]).data.toList.drop 3) = true := by rfl
theorem aw_n2 : gn ((ByteArray.mk #[2, 97, 98, 1]).data.toList.drop 3) = 1 := by rfl
theorem aw_s : ((ByteArray.mk #[2, 97, 98, 1]).extract (0 + 1) (ByteArray.mk #[2, 97, 98, 1]).size).extract 0 2 = ByteArray.mk #[97, 98] := by decide

set_option maxHeartbeats 800000 in
set_option maxRecDepth 100000 in
theorem awake4_any (w : World) : Calls Try.prog 54 #[] w fun e w' => e = .returned (.bool true) ∧ Below w.heap.size w w' := by
  go_enter Try.func54, Try.ntmps54
  go_wp2_with fail
  refine (new_any ⟨#[2, 97, 98, 1]⟩ w).mono ?_
  rintro e w1 ⟨rfl, hs1, hb1⟩
  go_wp2_with fail
  refine (text_yes w1 w.heap.size ⟨#[2, 97, 98, 1]⟩ 0 5 (by decide) (by decide) hs1 aw_b (by decide) (by decide) (by rw [aw_n]; decide) (by rw [aw_n, aw_k]; decide)).mono ?_
  rintro e w2 ⟨rfl, hs2, hb2⟩
  rw [aw_n, aw_k] at hs2
  rw [aw_n, aw_k, aw_s]
  go_wp2_with fail
  refine (num_limit w2 w.heap.size ⟨#[2, 97, 98, 1]⟩ 3 0 (by decide) (by decide) hs2 aw_b2 (by decide) (Or.inr (by rw [aw_n2]; decide))).mono ?_
  rintro e w3 ⟨rfl, hs3, hb3⟩
  have hbb : Below w.heap.size w w3 := But.below (But.below hb1 hb2 (Nat.le_refl _) hb1.size) hb3 (Nat.le_refl _) (Nat.le_trans hb1.size hb2.size)
  clear hs1 hs2 hb1 hb2 hb3
  go_wp2_with fail
  refine (err_any w3 w.heap.size true _ _ _ hs3).mono ?_
  rintro e w4 ⟨rfl, rfl⟩
  go_wp2_with fail
  refine (at_any w3 w.heap.size true _ _ _ hs3).mono ?_
  rintro e w4 ⟨rfl, rfl⟩
  go_wp2
  go_ret
  exact ⟨rfl, hbb⟩
end Go.Proofs.Ytgbagifmelkkhaa
