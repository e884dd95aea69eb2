/- Plain facts on rows of numbers as bytes. No program stands here. -/
import Derived.Test.YtefhccegnjhhnaaVm
namespace Go.Proofs.Ytefhccegnjhhnaa.Vi
open Go.RowKit

/-- a number of 64 bits as a cell holds it -/
def nv (n : Nat) : Value := .int .u64 (n : Int)

/-- so many numbers off the front, behind those that were taken -/
def rws : Nat → List UInt8 → List Nat → Nat → Option (List Nat × Nat)
  | 0, _, acc, p => some (acc, p)
  | c + 1, l, acc, p => if gb l = true then rws c (l.drop (gk l)) (acc ++ [gn l]) (p + gk l) else none

theorem gk_pos {l : List UInt8} (h : gb l = true) : 1 ≤ gk l := by
  unfold gb at h; unfold gk
  cases hg : get l with
  | none => simp [hg] at h
  | some p =>
    obtain ⟨m, k⟩ := p
    obtain ⟨t, rfl, rfl, hm⟩ := get_some hg
    have : 1 ≤ (put m).length := by unfold put; rw [leb]; split <;> simp
    exact this
theorem rws_yes {c : Nat} {l : List UInt8} {acc : List Nat} {p : Nat} (h : gb l = true) : rws (c + 1) l acc p = rws c (l.drop (gk l)) (acc ++ [gn l]) (p + gk l) := by rw [rws, if_pos h]
theorem rws_no {c : Nat} {l : List UInt8} {acc : List Nat} {p : Nat} (h : gb l = false) : rws (c + 1) l acc p = none := by rw [rws, if_neg (by simp [h])]
theorem rws_long : ∀ (c : Nat) (l : List UInt8) (acc : List Nat) (p : Nat), l.length < c → rws c l acc p = none
  | 0, _, _, _, h => by omega
  | c + 1, l, acc, p, h => by
    by_cases hb : gb l = true
    · rw [rws_yes hb]
      have := gk_pos hb
      have := gk_le l
      exact rws_long c _ _ _ (by simp; omega)
    · rw [rws_no (by simpa using hb)]

theorem rws_len : ∀ (c : Nat) (l : List UInt8) (acc : List Nat) (p : Nat) (r : List Nat) (q : Nat), rws c l acc p = some (r, q) → r.length ≤ acc.length + l.length
  | 0, l, acc, p, r, q, h => by simp [rws] at h; rw [← h.1]; omega
  | c + 1, l, acc, p, r, q, h => by
    by_cases hb : gb l = true
    · rw [rws_yes hb] at h
      have h1 := gk_pos hb
      have h2 := gk_le l
      have h3 := rws_len c _ _ _ r q h
      simp at h3; omega
    · rw [rws_no (by simpa using hb)] at h; cases h

theorem gb_put (n : Nat) (t : List UInt8) (h : n < 18446744073709551616) : gb (put n ++ t) = true ∧ gn (put n ++ t) = n ∧ gk (put n ++ t) = (put n).length := by
  have := get_put n t h
  simp [gb, gn, gk, this]
/-- the bytes of a row -/
def cat : List Nat → List UInt8
  | [] => []
  | n :: r => put n ++ cat r
theorem cat_snoc : ∀ (a : List Nat) (n : Nat), cat (a ++ [n]) = cat a ++ put n
  | [], n => by simp [cat]
  | m :: a, n => by simp [cat, cat_snoc a n]
theorem cat_len : ∀ (a : List Nat), (cat a).length ≤ 10 * a.length
  | [] => by simp [cat]
  | n :: a => by have := cat_len a; have := put_len n; simp [cat]; omega
theorem rws_cat : ∀ (r : List Nat) (t : List UInt8) (acc : List Nat) (p : Nat), (∀ n ∈ r, n < 18446744073709551616) → rws r.length (cat r ++ t) acc p = some (acc ++ r, p + (cat r).length)
  | [], t, acc, p, _ => by simp [rws, cat]
  | n :: r, t, acc, p, h => by
    have hn := gb_put n (cat r ++ t) (h n (by simp))
    have e : cat (n :: r) ++ t = put n ++ (cat r ++ t) := by simp [cat]
    rw [e, List.length_cons, rws_yes hn.1, hn.2.1, hn.2.2, List.drop_left, rws_cat r t _ _ (fun m hm => h m (by simp [hm]))]
    simp [cat]; omega
end Go.Proofs.Ytefhccegnjhhnaa.Vi
