/- Plain facts on the digits of a number to the base 128, and its bytes. No program stands here. -/
import Derived.Test.YtiflieaemgamkaaGreatDoorVm
namespace Go.Proofs.YtiflieaemgamkaaGreatDoor.Vi
open Go.RowKit

/-- the digits of what is left, none of 0 -/
def dgt : Nat → Nat → List Nat
  | 0, _ => []
  | f + 1, m => if m = 0 then [] else m % 128 :: dgt f (m / 128)
/-- all digits, at least one -/
def digs (n : Nat) : List Nat := n % 128 :: dgt 9 (n / 128)

def iv (n : Nat) : Value := .int .i64 (n : Int)

theorem dgt_zero (f : Nat) : dgt f 0 = [] := by cases f <;> simp [dgt]
theorem dgt_pos (f m : Nat) (h : 0 < m) : dgt (f + 1) m = m % 128 :: dgt f (m / 128) := by rw [dgt, if_neg (by omega)]

theorem leb_digs : ∀ (f n : Nat), n < 128 ^ (f + 1) → (leb (f + 1) n).length = (n % 128 :: dgt f (n / 128)).length ∧
    ∀ k (h : k < (leb (f + 1) n).length) (h' : k < (n % 128 :: dgt f (n / 128)).length),
      (leb (f + 1) n)[k].toNat = (n % 128 :: dgt f (n / 128))[k] + (if k + 1 < (leb (f + 1) n).length then 128 else 0) ∧ (n % 128 :: dgt f (n / 128))[k] < 128
  | f, n, hn => by
    by_cases h1 : n < 128
    · have e : n / 128 = 0 := by omega
      rw [e, dgt_zero, leb_small f n h1]
      refine ⟨rfl, ?_⟩
      intro k h h'
      have : k = 0 := by simpa using h
      subst this
      simp [byte_nat n (show n < 256 by omega)]; omega
    · cases f with
      | zero => simp at hn; omega
      | succ f =>
        have ih := leb_digs f (n / 128) (by rw [Nat.pow_succ] at hn; omega)
        rw [leb_big (f + 1) n (by omega), dgt_pos f (n / 128) (by omega)]
        refine ⟨by simp only [List.length_cons] at ih ⊢; omega, ?_⟩
        intro k h h'
        cases k with
        | zero =>
          have hl : 0 < (leb (f + 1) (n / 128)).length := by rw [ih.1]; simp
          simp only [List.getElem_cons_zero, List.length_cons]
          rw [byte_nat _ (by omega), if_pos (by omega)]; omega
        | succ k =>
          simp only [List.length_cons] at h h'
          have := ih.2 k (by omega) (by simp only [List.length_cons]; omega)
          simp only [List.getElem_cons_succ, List.length_cons] at this ⊢
          simpa using this

theorem digs_len (n : Nat) (h : (n : Int) ≤ 18446744073709551615) : (digs n).length = (put n).length := (leb_digs 9 n (by omega)).1.symm
theorem put_at (n k : Nat) (h : (n : Int) ≤ 18446744073709551615) (hk : k < (put n).length) (hk' : k < (digs n).length) :
    (put n)[k].toNat = (digs n)[k] + (if k + 1 < (put n).length then 128 else 0) ∧ (digs n)[k] < 128 := (leb_digs 9 n (by omega)).2 k hk hk'
theorem take_more (l : List UInt8) (k : Nat) (h : k < l.length) : l.take (k + 1) = l.take k ++ [l[k]] := List.take_succ_eq_append_getElem h
theorem dgt_split (f m : Nat) (xs : List Nat) (h : 0 < m) (T : List Nat) (e : xs ++ dgt (f + 1) m = T) : (xs ++ [m % 128]) ++ dgt f (m / 128) = T := by
  rw [← e, dgt_pos f m h]; simp

/-! ### the digits from the last one on -/
theorem hz_take_step (l : List UInt8) (j e : Nat) (h : j < e) (he : e ≤ l.length) (n : Nat) (hn : n = hz ((l.take e).drop (j + 1)) % 18446744073709551616) :
    (n * 128 + l[j].toNat % 128) % 18446744073709551616 = hz ((l.take e).drop j) % 18446744073709551616 := by
  have hj : j < (l.take e).length := by simp; omega
  rw [List.drop_eq_getElem_cons hj]
  simp only [hz, List.getElem_take]
  rw [hn]; omega
theorem hi_at : ∀ (l : List UInt8) (k : Nat), k < hi l → ∃ h : k < l.length, 128 ≤ l[k].toNat
  | [], k, h => by simp [hi] at h
  | c :: l, k, h => by
    unfold hi at h
    split at h
    · rename_i hc
      cases k with
      | zero => exact ⟨by simp, hc⟩
      | succ k =>
        obtain ⟨h1, h2⟩ := hi_at l k (by omega)
        exact ⟨by simp; omega, by simpa using h2⟩
    · omega
theorem hi_end : ∀ (l : List UInt8) (h : hi l < l.length), l[hi l].toNat < 128
  | [], h => by simp at h
  | c :: l, h => by
    by_cases hc : 128 ≤ c.toNat
    · have e : hi (c :: l) = hi l + 1 := by simp [hi, hc]
      have h' : hi l < l.length := by rw [e] at h; simp at h; omega
      have := hi_end l h'
      have e2 : (c :: l)[hi (c :: l)] = l[hi l] := by simp only [e, List.getElem_cons_succ]
      rw [e2]; exact this
    · have e : hi (c :: l) = 0 := by simp [hi, hc]
      have e2 : (c :: l)[hi (c :: l)] = c := by simp only [e, List.getElem_cons_zero]
      rw [e2]; omega
end Go.Proofs.YtiflieaemgamkaaGreatDoor.Vi
