/- Plain facts on taking a number off the front of bytes: a number below 2 to the 64th is taken just where its bytes stand in front. No program stands here. -/
import Derived.Test.YtiflieaemgamkaaGreatDoorVi
namespace Go.Proofs.YtiflieaemgamkaaGreatDoor.Vi
open Go.RowKit

def mayB (b i : Nat) : Bool := (decide (0 < b) || decide (i = 0)) && (decide (b ≤ 1) || decide (i < 9))

def gt : Nat → Nat → Nat → List UInt8 → Option (Nat × Nat)
  | 0, _, _, _ => none
  | _ + 1, _, _, [] => none
  | f + 1, i, acc, c :: l => if 128 ≤ c.toNat then gt f (i + 1) (acc + (c.toNat - 128) * 128 ^ i) l else if mayB c.toNat i then some (acc + c.toNat * 128 ^ i, i + 1) else none

def get (l : List UInt8) : Option (Nat × Nat) := gt 10 0 0 l
def gn (l : List UInt8) : Nat := match get l with | some (n, _) => n | none => 0
def gk (l : List UInt8) : Nat := match get l with | some (_, k) => k | none => 0
def gb (l : List UInt8) : Bool := match get l with | some _ => true | none => false

/-- the places that are left for a digit at place i hold numbers below this -/
def lim (f : Nat) : Nat := if f = 0 then 1 else 2 * 128 ^ (f - 1)
theorem lim_succ (f : Nat) (h : 0 < f) : lim (f + 1) = 128 * lim f := by
  unfold lim; rw [if_neg (by omega), if_neg (by omega)]
  obtain ⟨g, rfl⟩ : ∃ g, f = g + 1 := ⟨f - 1, by omega⟩
  simp [Nat.pow_succ]; omega
theorem lim_ten : lim 10 = 18446744073709551616 := by decide

theorem gt_put : ∀ (f i acc n : Nat) (t : List UInt8), i + f = 10 → n < lim f → (0 < n ∨ i = 0) → 0 < f →
    gt f i acc (leb f n ++ t) = some (acc + n * 128 ^ i, i + (leb f n).length)
  | 0, _, _, _, _, _, _, _, h => by omega
  | f + 1, i, acc, n, t, hi, hn, h0, _ => by
    by_cases h : n < 128
    · have hm : mayB n i = true := by
        unfold mayB
        have : n ≤ 1 ∨ i < 9 := by
          by_cases hf : f = 0
          · subst hf; have : lim (0 + 1) = 2 := by decide
            omega
          · omega
        simp; omega
      rw [leb_small f n h]
      simp only [List.cons_append, List.nil_append, gt, byte_nat n (by omega)]
      rw [if_neg (by omega), if_pos hm]; rfl
    · have hf : 0 < f := by
        rcases Nat.eq_zero_or_pos f with rfl | hf
        · have : lim (0 + 1) = 2 := by decide
          omega
        · exact hf
      rw [leb_big f n (by omega)]
      simp only [List.cons_append, gt, byte_nat (n % 128 + 128) (by omega)]
      rw [if_pos (by omega), gt_put f (i + 1) _ (n / 128) t (by omega) (by rw [lim_succ f hf] at hn; omega) (by omega) hf]
      have e : n * 128 ^ i = n % 128 * 128 ^ i + n / 128 * 128 ^ (i + 1) := by
        rw [Nat.pow_succ, ← Nat.mul_assoc, Nat.mul_right_comm, ← Nat.add_mul]; congr 1; omega
      simp only [List.length_cons]
      rw [e]; simp only [Option.some.injEq, Prod.mk.injEq]; constructor
      · have : n % 128 + 128 - 128 = n % 128 := by omega
        rw [this]; omega
      · omega

theorem gt_some : ∀ (f i acc : Nat) (l : List UInt8) (m k : Nat), i + f = 10 → gt f i acc l = some (m, k) →
    ∃ n t, l = leb f n ++ t ∧ m = acc + n * 128 ^ i ∧ k = i + (leb f n).length ∧ (0 < n ∨ i = 0) ∧ n < lim f
  | 0, _, _, _, _, _, _, h => by simp [gt] at h
  | _ + 1, _, _, [], _, _, _, h => by simp [gt] at h
  | f + 1, i, acc, c :: l, m, k, hi, h => by
    have hc : c.toNat < 256 := c.toNat_lt
    simp only [gt] at h
    split at h
    · rename_i h1
      obtain ⟨n, t, rfl, rfl, rfl, hp, hlt⟩ := gt_some f (i + 1) _ l m k (by omega) h
      have hf : 0 < f := by
        rcases Nat.eq_zero_or_pos f with rfl | hf
        · simp [gt] at h
        · exact hf
      refine ⟨c.toNat - 128 + 128 * n, t, ?_, ?_, ?_, by omega, by rw [lim_succ f hf]; omega⟩
      · rw [leb_big f _ (by omega)]
        have e1 : (c.toNat - 128 + 128 * n) % 128 + 128 = c.toNat := by omega
        have e2 : (c.toNat - 128 + 128 * n) / 128 = n := by omega
        rw [e1, e2, UInt8.ofNat_toNat]; rfl
      · rw [Nat.add_mul, Nat.pow_succ]
        have : 128 * n * 128 ^ i = n * (128 ^ i * 128) := by rw [Nat.mul_comm 128 n, Nat.mul_assoc, Nat.mul_comm 128]
        omega
      · rw [leb_big f _ (by omega)]
        have e2 : (c.toNat - 128 + 128 * n) / 128 = n := by omega
        rw [e2]; simp only [List.length_cons]; omega
    · rename_i h1
      split at h
      · rename_i h2
        simp only [Option.some.injEq, Prod.mk.injEq] at h
        obtain ⟨rfl, rfl⟩ := h
        refine ⟨c.toNat, l, ?_, rfl, ?_, ?_, ?_⟩
        · rw [leb_small f _ (by omega), UInt8.ofNat_toNat]; rfl
        · rw [leb_small f _ (by omega)]; rfl
        · unfold mayB at h2; simp at h2; omega
        · unfold mayB at h2; simp at h2
          rcases Nat.eq_zero_or_pos f with rfl | hf
          · have : lim (0 + 1) = 2 := by decide
            omega
          · rw [lim_succ f hf]
            have : 2 ≤ lim f := by
              unfold lim; rw [if_neg (by omega)]
              have : 0 < 128 ^ (f - 1) := Nat.pow_pos (by omega)
              omega
            omega
      · cases h

theorem get_put (n : Nat) (t : List UInt8) (h : n < 18446744073709551616) : get (put n ++ t) = some (n, (put n).length) := by
  have := gt_put 10 0 0 n t rfl (by rw [lim_ten]; exact h) (Or.inr rfl) (by omega)
  simpa [get, put] using this

theorem get_some {l : List UInt8} {m k : Nat} (h : get l = some (m, k)) : ∃ t, l = put m ++ t ∧ k = (put m).length ∧ m < 18446744073709551616 := by
  obtain ⟨n, t, hl, hm, hk, _, hn⟩ := gt_some 10 0 0 l m k rfl h
  rw [lim_ten] at hn
  have : m = n := by simpa using hm
  subst this
  exact ⟨t, hl, by simpa [put] using hk, hn⟩

theorem put_inj {a b : Nat} {s t : List UInt8} (ha : a < 18446744073709551616) (hb : b < 18446744073709551616) (h : put a ++ s = put b ++ t) : a = b := by
  have h1 := get_put a s ha
  rw [h, get_put b t hb] at h1
  simp at h1; exact h1.1.symm

theorem gk_le (l : List UInt8) : gk l ≤ l.length := by
  unfold gk
  cases h : get l with
  | none => simp
  | some p => obtain ⟨m, k⟩ := p; obtain ⟨t, rfl, rfl, _⟩ := get_some h; simp
theorem gn_lt (l : List UInt8) : (gn l : Int) ≤ 18446744073709551615 := by
  unfold gn
  cases h : get l with
  | none => simp
  | some p => obtain ⟨m, k⟩ := p; obtain ⟨t, rfl, rfl, h⟩ := get_some h; simp only; omega
theorem gk_ten (l : List UInt8) : gk l ≤ 10 := by
  unfold gk
  cases h : get l with
  | none => simp
  | some p => obtain ⟨m, k⟩ := p; obtain ⟨t, rfl, rfl, h⟩ := get_some h; exact put_len m

theorem pow128 (k : Nat) : 2 ^ (7 * k) = 128 ^ k := by rw [Nat.pow_mul]
theorem wrap_nat (x : Nat) : IntKind.u64.wrap (x : Int) = ((x % 18446744073709551616 : Nat) : Int) := by rw [IntKind.wrap_u64]; omega
theorem or_wrap (acc x k : Nat) (ha : (acc : Int) ≤ 18446744073709551615) :
    bits BinOp.or IntKind.u64 (acc : Int) (IntKind.u64.wrap ((x : Int) * 2 ^ (7 * k))) = ((acc ||| x * 128 ^ k % 18446744073709551616 : Nat) : Int) := by
  have e : (x : Int) * 2 ^ (7 * k) = ((x * 128 ^ k : Nat) : Int) := by
    have e2 : (2 : Int) ^ (7 * k) = ((2 ^ (7 * k) : Nat) : Int) := by rw [Int.natCast_pow]; rfl
    rw [e2, pow128, ← Int.natCast_mul]
  rw [e, wrap_nat, u64_or_nat _ _ (by omega) (Nat.mod_lt _ (by omega))]
theorem or_lt (acc x : Nat) (ha : (acc : Int) ≤ 18446744073709551615) : ((acc ||| x % 18446744073709551616 : Nat) : Int) ≤ 18446744073709551615 := by
  have := Nat.or_lt_two_pow (n := 64) (show acc < 2 ^ 64 by omega) (show x % 18446744073709551616 < 2 ^ 64 from Nat.mod_lt _ (by omega))
  omega
theorem or_add (acc x k : Nat) (ha : acc < 128 ^ k) (hx : x * 128 ^ k < 18446744073709551616) : acc ||| x * 128 ^ k % 18446744073709551616 = acc + x * 128 ^ k := by
  rw [Nat.mod_eq_of_lt hx, Nat.or_comm, nat_join (7 * k) _ _ (by rw [pow128, Nat.mul_mod_left]) (by rw [pow128]; exact ha), Nat.add_comm]
theorem pow_le8 (k : Nat) (h : k ≤ 8) : 128 ^ k ≤ 72057594037927936 := Nat.pow_le_pow_right (by omega) h
theorem drop_at {s : ByteArray} {k : Nat} (h : k < s.size) : s.data.toList.drop k = s[k] :: s.data.toList.drop (k + 1) := by
  rw [List.drop_eq_getElem_cons (by simpa using h)]; rfl

theorem gt_stop {s : ByteArray} {k acc : Nat} (h : k < s.size) (hk : k < 10) (hb : s[k].toNat < 128)
    (hg : acc < 128 ^ k ∧ get s.data.toList = gt (10 - k) k acc (s.data.toList.drop k)) :
    (mayB s[k].toNat k = true → acc ||| s[k].toNat * 128 ^ k % 18446744073709551616 = gn s.data.toList ∧ gk s.data.toList = k + 1 ∧ gb s.data.toList = true) ∧
    (mayB s[k].toNat k = false → get s.data.toList = none) := by
  obtain ⟨ha, hg⟩ := hg
  have e : 10 - k = (9 - k) + 1 := by omega
  rw [e, drop_at h, gt, if_neg (by omega)] at hg
  constructor
  · intro hm
    rw [if_pos hm] at hg
    have hx : s[k].toNat * 128 ^ k < 18446744073709551616 := by
      by_cases h8 : k ≤ 8
      · have := pow_le8 k h8
        have : s[k].toNat * 128 ^ k ≤ 127 * 72057594037927936 := Nat.mul_le_mul (by omega) this
        omega
      · have h9 : k = 9 := by omega
        have hb1 : s[k].toNat ≤ 1 := by unfold mayB at hm; simp at hm; omega
        have : s[k].toNat * 128 ^ k ≤ 1 * 128 ^ 9 := Nat.mul_le_mul hb1 (by rw [h9]; exact Nat.le_refl _)
        omega
    rw [or_add _ _ _ ha hx]
    simp [gn, gk, gb, hg]
  · intro hm
    rw [if_neg (by simp [hm])] at hg
    exact hg
theorem gt_go {s : ByteArray} {k acc : Nat} (h : k < s.size) (hk : k < 10) (hb : 128 ≤ s[k].toNat)
    (hg : acc < 128 ^ k ∧ get s.data.toList = gt (10 - k) k acc (s.data.toList.drop k)) :
    (k + 1 < 10 → (acc ||| (s[k].toNat - 128) * 128 ^ k % 18446744073709551616) < 128 ^ (k + 1) ∧ get s.data.toList = gt (10 - (k + 1)) (k + 1) (acc ||| (s[k].toNat - 128) * 128 ^ k % 18446744073709551616) (s.data.toList.drop (k + 1))) ∧
    (k + 1 = 10 → get s.data.toList = none) := by
  obtain ⟨ha, hg⟩ := hg
  have e : 10 - k = (10 - (k + 1)) + 1 := by omega
  have hc : s[k].toNat < 256 := s[k].toNat_lt
  rw [e, drop_at h, gt, if_pos hb] at hg
  constructor
  · intro h9
    have hx : (s[k].toNat - 128) * 128 ^ k < 18446744073709551616 := by
      have := pow_le8 k (by omega)
      have : (s[k].toNat - 128) * 128 ^ k ≤ 127 * 72057594037927936 := Nat.mul_le_mul (by omega) this
      omega
    rw [or_add _ _ _ ha hx]
    refine ⟨?_, hg⟩
    rw [Nat.pow_succ]
    have : (s[k].toNat - 128) * 128 ^ k ≤ 127 * 128 ^ k := Nat.mul_le_mul (by omega) (Nat.le_refl _)
    omega
  · intro h9
    have : 10 - (k + 1) = 0 := by omega
    rw [this] at hg
    exact hg
theorem gt_none {s : ByteArray} {k acc : Nat} (hk : k < 10) (hs : s.size ≤ k)
    (hg : acc < 128 ^ k ∧ get s.data.toList = gt (10 - k) k acc (s.data.toList.drop k)) : get s.data.toList = none := by
  have e : 10 - k = (9 - k) + 1 := by omega
  rw [hg.2, e, List.drop_eq_nil_of_le (by simpa using hs)]; rfl
theorem get_none_is {l : List UInt8} (h : get l = none) : gn l = 0 ∧ gk l = 0 ∧ gb l = false := by simp [gn, gk, gb, h]

/-! ### the other way to reckon it: the digits first -/
def hz : List UInt8 → Nat
  | [] => 0
  | c :: l => c.toNat % 128 + 128 * hz l
theorem hz_leb : ∀ (f n : Nat), n < 128 ^ f → hz (leb f n) = n
  | 0, n, h => by simp at h; subst h; rfl
  | f + 1, n, h => by
    by_cases h1 : n < 128
    · rw [leb_small f n h1]; simp only [hz]; rw [byte_nat n (by omega)]; omega
    · rw [leb_big f n (by omega)]; simp only [hz]; rw [byte_nat _ (by omega), hz_leb f (n / 128) (by rw [Nat.pow_succ] at h; omega)]; omega
theorem hz_put (n : Nat) (h : n < 18446744073709551616) : hz (put n) = n := hz_leb 10 n (by omega)

/-- how many bytes of 128 or more stand in front -/
def hi : List UInt8 → Nat
  | [] => 0
  | c :: l => if 128 ≤ c.toNat then hi l + 1 else 0
theorem hi_le : ∀ l : List UInt8, hi l ≤ l.length
  | [] => by simp [hi]
  | c :: l => by unfold hi; split <;> simp; have := hi_le l; omega
theorem hi_leb : ∀ (f n : Nat) (t : List UInt8), n < 128 ^ (f + 1) → hi (leb (f + 1) n ++ t) + 1 = (leb (f + 1) n).length
  | f, n, t, h => by
    by_cases h1 : n < 128
    · rw [leb_small f n h1]; simp [hi, byte_nat n (show n < 256 by omega)]; omega
    · cases f with
      | zero => simp at h; omega
      | succ f =>
        rw [leb_big (f + 1) n (by omega)]
        have := hi_leb f (n / 128) t (by rw [Nat.pow_succ] at h; omega)
        simp only [List.cons_append, hi, byte_nat (n % 128 + 128) (show _ < 256 by omega), List.length_cons]
        rw [if_pos (by omega)]; omega
theorem hi_put (n : Nat) (t : List UInt8) (h : n < 18446744073709551616) : hi (put n ++ t) + 1 = (put n).length := hi_leb 9 n t (by omega)

theorem get_long {l : List UInt8} (h : l.length ≤ hi l ∨ 9 < hi l) : get l = none := by
  cases hg : get l with
  | none => rfl
  | some p =>
    obtain ⟨m, k⟩ := p
    obtain ⟨t, rfl, rfl, hm⟩ := get_some hg
    have := hi_put m t hm
    have := put_len m
    simp at h; omega
theorem get_yes {l : List UInt8} (h : put (hz (l.take (hi l + 1)) % 18446744073709551616) = l.take (hi l + 1)) (hl : hi l < l.length) :
    get l = some (hz (l.take (hi l + 1)) % 18446744073709551616, hi l + 1) := by
  have hlt : hz (l.take (hi l + 1)) % 18446744073709551616 < 18446744073709551616 := Nat.mod_lt _ (by omega)
  have hg := get_put _ (l.drop (hi l + 1)) hlt
  rw [h, List.take_append_drop] at hg
  rw [hg]; simp; omega
theorem get_no {l : List UInt8} (h : put (hz (l.take (hi l + 1)) % 18446744073709551616) ≠ l.take (hi l + 1)) : get l = none := by
  cases hg : get l with
  | none => rfl
  | some p =>
    obtain ⟨m, k⟩ := p
    obtain ⟨t, rfl, rfl, hm⟩ := get_some hg
    refine absurd ?_ h
    rw [hi_put m t hm, List.take_left, hz_put m hm, Nat.mod_eq_of_lt hm]
end Go.Proofs.YtiflieaemgamkaaGreatDoor.Vi
