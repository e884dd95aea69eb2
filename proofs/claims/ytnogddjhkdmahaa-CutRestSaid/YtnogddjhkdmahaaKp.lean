/- Plain facts on sums that roll over the last eight bytes. No program stands here. -/
import Derived.WalkKit
namespace Go.Proofs.Ytnogddjhkdmahaa.Rm
open Go.RowKit

/-- one byte (and one) more -/
def stp (s c : Nat) : Nat := (s * 16777619 + c * 2654435761) % 4294967296
def hsum (v : List Nat) : Nat := v.foldl stp 0
def ones (l : List UInt8) : List Nat := l.map fun c => c.toNat + 1
/-- the sum of the last eight bytes -/
def rsum (l : List UInt8) : Nat := hsum (ones (l.drop (l.length - 8)))
theorem hsum_lt (v : List Nat) : hsum v < 4294967296 := by
  unfold hsum
  have : ∀ (v : List Nat) (s : Nat), s < 4294967296 → v.foldl stp s < 4294967296 := by
    intro v
    induction v with
    | nil => exact fun s h => h
    | cons c v ih => exact fun s _ => ih _ (Nat.mod_lt _ (by omega))
  exact this v 0 (by omega)
theorem rsum_lt (l : List UInt8) : rsum l < 4294967296 := hsum_lt _
theorem hsum_zero (k : Nat) (v : List Nat) : hsum (List.replicate k 0 ++ v) = hsum v := by
  induction k with
  | zero => rfl
  | succ k ih => rw [← ih]; rfl
/-- the last eight, noughts ahead of them where they are fewer -/
def win (l : List UInt8) : List Nat := (List.replicate 8 0 ++ ones l).drop l.length
theorem ones_len (l : List UInt8) : (ones l).length = l.length := by simp [ones]
theorem win_len (l : List UInt8) : (win l).length = 8 := by
  unfold win
  rw [List.length_drop, List.length_append, ones_len, List.length_replicate]
  omega
theorem ones_drop (l : List UInt8) (k : Nat) : ones (l.drop k) = (ones l).drop k := by simp [ones, List.map_drop]
theorem win_sum (l : List UInt8) : hsum (win l) = rsum l := by
  unfold win rsum
  rcases Nat.lt_or_ge l.length 8 with h | h
  · rw [show l.length - 8 = 0 by omega, List.drop_zero, List.drop_append_of_le_length (by simp; omega), List.drop_replicate, hsum_zero]
  · rw [List.drop_append, List.drop_of_length_le (l := List.replicate 8 0) (by simpa using h), List.length_replicate, List.nil_append, ← ones_drop]
theorem win_snoc (l : List UInt8) (c : UInt8) : win (l ++ [c]) = (win l).drop 1 ++ [c.toNat + 1] := by
  unfold win
  rw [List.drop_drop, show (l ++ [c]).length = l.length + 1 by simp]
  have : ones (l ++ [c]) = ones l ++ [c.toNat + 1] := by simp [ones]
  rw [this, ← List.append_assoc, List.drop_append_of_le_length (by simp [ones_len])]
theorem fold_lin (v : List Nat) (s : Nat) : v.foldl stp s % 4294967296 = (s * 16777619 ^ v.length + hsum v) % 4294967296 := by
  have key : ∀ (v : List Nat) (s t : Nat), v.foldl stp (s + t) % 4294967296 = (s * 16777619 ^ v.length + v.foldl stp t) % 4294967296 := by
    intro v
    induction v with
    | nil => intro s t; simp
    | cons c v ih =>
      intro s t
      have e : stp (s + t) c % 4294967296 = (s * 16777619 + stp t c) % 4294967296 := by unfold stp; omega
      have h1 := ih (s * 16777619) (stp t c)
      have h2 : ∀ x y : Nat, x % 4294967296 = y % 4294967296 → v.foldl stp x % 4294967296 = v.foldl stp y % 4294967296 := by
        intro x y hxy
        cases v with
        | nil => simpa using hxy
        | cons d v =>
          have : stp x d = stp y d := by unfold stp; omega
          simp only [List.foldl_cons, this]
      rw [List.foldl_cons, List.foldl_cons, h2 _ _ e, h1, List.length_cons, Nat.pow_succ, Nat.mul_assoc, Nat.mul_comm 16777619 (16777619 ^ v.length)]
  have := key v s 0
  rwa [Nat.add_zero] at this
theorem pow7 : ∃ Z, 16777619 ^ 7 = Z * 4294967296 + 878009595 := ⟨16777619 ^ 7 / 4294967296, by decide⟩
theorem aid (a s Z H : Nat) (hs : s = (a * 2654435761) % 4294967296) : (s * (Z * 4294967296 + 878009595) + H) % 4294967296 = (a * 1810164875 + H) % 4294967296 := by
  rw [Nat.mul_add, ← Nat.mul_assoc]
  generalize s * Z = Y
  omega
theorem eight (a : Nat) (v : List Nat) (h : v.length = 7) : hsum (a :: v) = (a * 1810164875 + hsum v) % 4294967296 := by
  have h1 : hsum (a :: v) = v.foldl stp (stp 0 a) := rfl
  have h2 := fold_lin v (stp 0 a)
  have h3 : hsum (a :: v) < 4294967296 := hsum_lt _
  rw [← h1, Nat.mod_eq_of_lt h3] at h2
  obtain ⟨Z, hZ⟩ := pow7
  rw [h2, h, hZ]
  exact aid a _ Z _ (by unfold stp; rw [Nat.zero_mul, Nat.zero_add])
theorem aid2 (a x H X Y : Int) (hX : X = (a * 1810164875 + H) % 4294967296) (hY : Y = (H * 16777619 + x * 2654435761) % 4294967296) :
    ((X * 16777619 % 4294967296 + x * 2654435761 % 4294967296) % 4294967296 - a * 1684037329 % 4294967296) % 4294967296 = Y := by
  have e : (X * 16777619 % 4294967296 + x * 2654435761 % 4294967296) % 4294967296 = (X * 16777619 + x * 2654435761) % 4294967296 := by omega
  rw [e]
  have e2 : ((X * 16777619 + x * 2654435761) % 4294967296 - a * 1684037329 % 4294967296) % 4294967296 = (X * 16777619 + x * 2654435761 - a * 1684037329) % 4294967296 := by omega
  rw [e2, hY]
  clear e e2 hY
  obtain ⟨q, hq⟩ : ∃ q, X = a * 1810164875 + H - 4294967296 * q := ⟨(a * 1810164875 + H) / 4294967296, by omega⟩
  rw [hq]
  rw [show (a * 1810164875 + H - 4294967296 * q) * 16777619 + x * 2654435761 - a * 1684037329 = (H * 16777619 + x * 2654435761) + 4294967296 * (a * 7071126 - q * 16777619) by omega, Int.add_mul_emod_self_left]
theorem aid3 (A a H x B : Nat) (hA : A = (a * 1810164875 + H) % 4294967296) (hB : B = (H * 16777619 + x * 2654435761) % 4294967296) :
    (((A : Int) * 16777619 % 4294967296 + (x : Int) * 2654435761 % 4294967296) % 4294967296 - (a : Int) * 1684037329 % 4294967296) % 4294967296 = (B : Int) :=
  aid2 a x H A B (by omega) (by omega)
theorem snoc_sum (v : List Nat) (x : Nat) : hsum (v ++ [x]) = stp (hsum v) x := by
  unfold hsum
  rw [List.foldl_append, List.foldl_cons, List.foldl_nil]
/-- one comes, one leaves -/
theorem roll8 (a x : Nat) (v : List Nat) (h : v.length = 7) :
    (((hsum (a :: v) : Int) * 16777619 % 4294967296 + (x : Int) * 2654435761 % 4294967296) % 4294967296 - (a : Int) * 1684037329 % 4294967296) % 4294967296 = (hsum (v ++ [x]) : Int) :=
  aid3 _ a (hsum v) x _ (eight a v h) (snoc_sum v x)
/-- the sum with one byte more -/
theorem rsum_snoc (l : List UInt8) (c : UInt8) : (((rsum l : Int) * 16777619 % 4294967296 + ((c.toNat : Int) + 1) * 2654435761 % 4294967296) % 4294967296 - ((win l).getD 0 0 : Int) * 1684037329 % 4294967296) % 4294967296 = (rsum (l ++ [c]) : Int) := by
  rw [← win_sum, ← win_sum, win_snoc]
  have hw := win_len l
  obtain ⟨a, v, h⟩ : ∃ a v, win l = a :: v := List.exists_cons_of_length_pos (by omega)
  rw [h] at hw ⊢
  exact roll8 a (c.toNat + 1) v (by simpa using hw)
/-- how the ring of eight goes with the window -/
def Ring (l : List UInt8) (r : List Nat) : Prop := r.length = 8 ∧ ∀ k, k < 8 → r.getD ((l.length + k) % 8) 0 = (win l).getD k 0
theorem ring_nil : Ring [] (List.replicate 8 0) := ⟨rfl, by decide⟩
theorem ring_snoc {l : List UInt8} {r : List Nat} (h : Ring l r) (c : UInt8) : Ring (l ++ [c]) (r.set (l.length % 8) (c.toNat + 1)) := by
  obtain ⟨h1, h2⟩ := h
  refine ⟨by simpa using h1, fun k hk => ?_⟩
  rw [win_snoc, List.length_append, List.length_singleton]
  have hw := win_len l
  simp only [List.getD_eq_getElem?_getD] at h2 ⊢
  rcases Nat.lt_or_ge k 7 with hk7 | hk7
  · have := h2 (k + 1) (by omega)
    rw [List.getElem?_set_ne (by omega), List.getElem?_append_left (by rw [List.length_drop]; omega), List.getElem?_drop, show l.length + 1 + k = l.length + (k + 1) by omega, this, Nat.add_comm 1 k]
  · obtain rfl : k = 7 := by omega
    rw [show (l.length + 1 + 7) % 8 = l.length % 8 by omega, List.getElem?_set_self (by omega), List.getElem?_append_right (by rw [List.length_drop]; omega), List.length_drop, hw]
    rfl
theorem ring_at {l : List UInt8} {r : List Nat} (h : Ring l r) : r.getD (l.length % 8) 0 = (win l).getD 0 0 := by
  have := h.2 0 (by omega)
  rwa [Nat.add_zero] at this
theorem ring_le {l : List UInt8} : (win l).getD 0 0 ≤ 256 := by
  have hx : ∀ x ∈ win l, x ≤ 256 := by
    intro x hx
    have := List.mem_of_mem_drop hx
    rcases List.mem_append.1 this with h | h
    · have := (List.mem_replicate.1 h).2; omega
    · obtain ⟨c, _, rfl⟩ := List.mem_map.1 h
      have := c.toNat_lt
      omega
  have hw := win_len l
  rw [List.getD_eq_getElem?_getD, List.getElem?_eq_getElem (by omega)]
  exact hx _ (List.getElem_mem _)
/-- what stands ahead of the last eight plays no part -/
theorem rsum_last (a s : List UInt8) (h : s.length = 8) : rsum (a ++ s) = rsum s := by
  unfold rsum
  rw [List.length_append, List.drop_append, show s.length - 8 = 0 by omega, show a.length + s.length - 8 = a.length by omega]
  simp
/-- does a chunk end? -/
def hit (n : Nat) : Bool := let m := n ^^^ n / 65536; (m ^^^ m / 256) % 4 == 3
end Go.Proofs.Ytnogddjhkdmahaa.Rm
