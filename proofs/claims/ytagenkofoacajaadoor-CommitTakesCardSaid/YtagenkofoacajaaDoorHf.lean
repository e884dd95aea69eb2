/- Plain facts on what stands behind a sum's bytes, and on a sum's own bytes. No program stands here. -/
import Derived.Test.YtagenkofoacajaaDoorHy
namespace Go.Proofs.YtagenkofoacajaaDoor
open Go.RowKit Hm

def endByte (n i : Nat) : UInt8 := UInt8.ofNat (n * 8 / 2 ^ (8 * (7 - i)) % 256)
/-- the 72 bytes, so many of the length's laid from place o on -/
def endAt (n o k : Nat) : List UInt8 := (128 :: List.replicate (o - 1) 0) ++ ((List.range k).map (endByte n) ++ List.replicate (72 - o - k) 0)
theorem endAt_len (n o k : Nat) (ho : 1 ≤ o) (h : o + k ≤ 72) : (endAt n o k).length = 72 := by
  unfold endAt
  simp
  omega
theorem endAt_zero (n o : Nat) (ho : 1 ≤ o) (h : o ≤ 72) : endAt n o 0 = 128 :: List.replicate 71 0 := by
  unfold endAt
  rw [List.range_zero, List.map_nil, List.nil_append, List.cons_append, List.replicate_append_replicate, show o - 1 + (72 - o - 0) = 71 by omega]
theorem endAt_set (n o k : Nat) (ho : 1 ≤ o) (h : o + k < 72) : (endAt n o k).set (o + k) (endByte n k) = endAt n o (k + 1) := by
  unfold endAt
  have hl : (128 :: List.replicate (o - 1) (0 : UInt8)).length = o := by simp; omega
  rw [List.set_append_right _ _ (by rw [hl]; omega), hl, Nat.add_sub_cancel_left]
  have hr : ((List.range k).map (endByte n)).length = k := by simp
  rw [List.set_append_right _ _ (by rw [hr]; exact Nat.le_refl _), hr, Nat.sub_self, show 72 - o - k = (72 - o - (k + 1)) + 1 by omega, List.replicate_succ, List.set_cons_zero, List.range_succ, List.map_append]
  simp
theorem endAt_take (n : Nat) : (endAt n (64 - (n + 8) % 64) 8).take (64 - (n + 8) % 64 + 8) = tailOf n := by
  unfold endAt tailOf
  have hm : (n + 8) % 64 < 64 := Nat.mod_lt _ (by omega)
  generalize (n + 8) % 64 = m at hm
  rw [← List.append_assoc, List.take_append_of_le_length (by simp; omega), List.take_of_length_le (by simp; omega)]
  rw [show 64 - m - 1 = 63 - m by omega]
  rfl
theorem tailOf_len (n : Nat) : (n + (tailOf n).length) % 64 = 0 := by
  unfold tailOf
  have hm : (n + 8) % 64 < 64 := Nat.mod_lt _ (by omega)
  simp
  omega
theorem tailOf_size (n : Nat) : (tailOf n).length ≤ 72 := by
  have h := tailOf_len n
  unfold tailOf at h ⊢
  simp at h ⊢
  try omega

def outByte (h : List Nat) (k : Nat) : UInt8 := UInt8.ofNat (h.getD (k / 4) 0 / 2 ^ (24 - k % 4 * 8) % 256)
theorem bytesOf_out (h : List Nat) (hl : h.length = 8) : bytesOf h = (List.range 32).map (outByte h) := by
  obtain ⟨a0, a1, a2, a3, a4, a5, a6, a7, rfl⟩ := list8 h hl
  simp [bytesOf, outByte, List.range, List.range.loop]
def outAt (h : List Nat) (k : Nat) : List UInt8 := (List.range k).map (outByte h) ++ List.replicate (32 - k) 0
theorem outAt_len (h : List Nat) (k : Nat) (hk : k ≤ 32) : (outAt h k).length = 32 := by
  unfold outAt
  simp
  omega
theorem outAt_set (h : List Nat) (k : Nat) (hk : k < 32) : (outAt h k).set k (outByte h k) = outAt h (k + 1) := by
  unfold outAt
  have hr : ((List.range k).map (outByte h)).length = k := by simp
  rw [List.set_append_right _ _ (by rw [hr]; exact Nat.le_refl _), hr, Nat.sub_self, show 32 - k = (32 - (k + 1)) + 1 by omega, List.replicate_succ, List.set_cons_zero, List.range_succ, List.map_append]
  simp
theorem outAt_all (h : List Nat) (hl : h.length = 8) : outAt h 32 = bytesOf h := by
  rw [bytesOf_out h hl]
  simp [outAt]
theorem bytesOf_len (h : List Nat) (hl : h.length = 8) : (bytesOf h).length = 32 := by
  rw [bytesOf_out h hl]
  simp
theorem sum_blk (l : List UInt8) : bytesOf (blk (l ++ tailOf l.length)) = Hm.sum l := rfl
end Go.Proofs.YtagenkofoacajaaDoor
