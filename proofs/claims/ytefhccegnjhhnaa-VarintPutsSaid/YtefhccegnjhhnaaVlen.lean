/- Plain facts: how many bytes a number has to the base 128, by how many bits it has. No program stands here. -/
import Derived.Test.YtefhccegnjhhnaaVi
import Derived.Lib.BitFns
namespace Go.Proofs.Ytefhccegnjhhnaa.Vi
open Go.RowKit

theorem tab_at (i : Nat) (h : i < 256) (h' : i < Lib.len8tab.size) : ((Lib.len8tab[i]).toNat : Int) = (Lib.bitLen i : Int) := by
  have e := Lib.len8_eq ⟨i, h⟩
  simp only [Lib.len8, Int.toNat_natCast] at e
  rw [← e]
  have : (Lib.len8tab[i]?).getD 0 = Lib.len8tab[i] := by
    rw [getElem?_pos Lib.len8tab i h']; rfl
  rw [this]
theorem bit8 (i : Nat) (h : i < 256) : Lib.bitLen i ≤ 8 := Lib.bitLen_le8 ⟨i, h⟩
theorem w64 (n : Int) (h : 0 ≤ n) (h2 : n ≤ 100) : wrap64 n = n := IntWalk.wrap64_in n ⟨by omega, by omega⟩
theorem tab_sum (a : Int) (i : Nat) (h : i < 256) (h' : i < Lib.len8tab.size) (ha : 0 ≤ a) (hb : a ≤ 90) :
    wrap64 (a + wrap64 ((Lib.len8tab[i]).toNat : Int)) = a + (Lib.bitLen i : Int) := by
  have l := bit8 i h
  rw [tab_at i h h', w64 (Lib.bitLen i : Int) (by omega) (by omega), w64 _ (by omega) (by omega)]
theorem tab_one (i : Nat) (h : i < 256) (h' : i < Lib.len8tab.size) :
    wrap64 (wrap64 ((Lib.len8tab[i]).toNat : Int)) = (Lib.bitLen i : Int) := by
  have l := bit8 i h
  rw [tab_at i h h', w64 (Lib.bitLen i : Int) (by omega) (by omega), w64 _ (by omega) (by omega)]

theorem or_one (n : Nat) : n ||| 1 = 2 * (n / 2) + 1 := by
  have h1 : (n ||| 1) / 2 = n / 2 ||| 1 / 2 := Nat.or_div_two
  have h2 : (n ||| 1) % 2 = 1 := Nat.or_mod_two_eq_one.2 (Or.inr rfl)
  simp at h1
  omega

theorem leb_bits : ∀ (f x : Nat), 0 < x → x < 128 ^ f → x < 18446744073709551616 → (leb f x).length = (Lib.bitLen x + 6) / 7
  | 0, x, h0, h, _ => by simp at h; omega
  | f + 1, x, h0, h, h64 => by
    by_cases h1 : x < 128
    · rw [leb_small f x h1]
      have a := Lib.bitLen_le x 7 (by omega) (by omega)
      have b := Lib.bitLen_half x (by omega) (by omega)
      simp; omega
    · rw [leb_big f x (by omega)]
      have a := Lib.bitLen_shift 7 x (by omega) (by omega)
      have b := leb_bits f (x / 128) (by omega) (by rw [Nat.pow_succ] at h; omega) (by omega)
      have e : x / 2 ^ 7 = x / 128 := rfl
      rw [e] at a
      simp only [List.length_cons]
      omega
theorem leb_or : ∀ (f n : Nat), (leb f (2 * (n / 2) + 1)).length = (leb f n).length
  | 0, _ => rfl
  | f + 1, n => by
    by_cases h1 : n < 128
    · rw [leb_small f n h1, leb_small f _ (by omega)]; rfl
    · rw [leb_big f n (by omega), leb_big f _ (by omega)]
      have : (2 * (n / 2) + 1) / 128 = n / 128 := by omega
      rw [this]; rfl
theorem size_is (n : Nat) (h : (n : Int) ≤ 18446744073709551615) : (Lib.bitLen (n ||| 1) + 6) / 7 = (put n).length := by
  rw [or_one, put, ← leb_or, leb_bits 10 _ (by omega) (by omega) (by omega)]
end Go.Proofs.Ytefhccegnjhhnaa.Vi
