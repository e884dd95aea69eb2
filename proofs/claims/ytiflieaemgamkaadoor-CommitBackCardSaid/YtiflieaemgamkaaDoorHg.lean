/- Plain facts on a block's words: what the program lays step by step is what the sum asks. No program stands here. -/
import Derived.Test.YtiflieaemgamkaaDoorHs
namespace Go.Proofs.YtiflieaemgamkaaDoor
open Go.RowKit Hm

theorem orb (a c : Nat) (hc : c < 256) (ha : a * 256 < 4294967296) : (a * 2 ^ 8 % 4294967296 ||| c) = a * 256 + c := by
  rw [Nat.mod_eq_of_lt (by omega)]
  have h := Nat.shiftLeft_add_eq_or_of_lt (i := 8) (b := c) (by omega) a
  rw [Nat.shiftLeft_eq] at h
  omega
theorem getD_set_same (r : List Nat) (i x : Nat) (hi : i < r.length) : (r.set i x).getD i 0 = x := by simp [List.getD, hi]
theorem take1_at (b : List UInt8) (r : List Nat) (k i x : Nat) (hk : k / 4 = i) (hr : r.getD i 0 = x) : take1 b r k = r.set i (x * 2 ^ 8 % 4294967296 ||| (b.getD k 0).toNat) := by
  unfold take1
  rw [hk, hr]
theorem word_eq (b : List UInt8) (i x0 x1 x2 x3 : Nat) (h0 : (b.getD (4 * i) 0).toNat = x0) (h1 : (b.getD (4 * i + 1) 0).toNat = x1) (h2 : (b.getD (4 * i + 2) 0).toNat = x2) (h3 : (b.getD (4 * i + 3) 0).toNat = x3) : word b i = ((x0 * 256 + x1) * 256 + x2) * 256 + x3 := by
  unfold word
  rw [h0, h1, h2, h3]
theorem take4 (b : List UInt8) (r : List Nat) (i : Nat) (hr : r.getD i 0 = 0) (hi : i < r.length) : take1 b (take1 b (take1 b (take1 b r (4 * i)) (4 * i + 1)) (4 * i + 2)) (4 * i + 3) = r.set i (word b i) := by
  have c0 : (b.getD (4 * i) 0).toNat < 256 := (b.getD (4 * i) 0).toNat_lt
  have c1 : (b.getD (4 * i + 1) 0).toNat < 256 := (b.getD (4 * i + 1) 0).toNat_lt
  have c2 : (b.getD (4 * i + 2) 0).toNat < 256 := (b.getD (4 * i + 2) 0).toNat_lt
  have c3 : (b.getD (4 * i + 3) 0).toNat < 256 := (b.getD (4 * i + 3) 0).toNat_lt
  have t0 := take1_at b r (4 * i) i 0 (by omega) hr
  have t1 := fun v => take1_at b (r.set i v) (4 * i + 1) i v (by omega) (getD_set_same r i v hi)
  have t2 := fun v => take1_at b (r.set i v) (4 * i + 2) i v (by omega) (getD_set_same r i v hi)
  have t3 := fun v => take1_at b (r.set i v) (4 * i + 3) i v (by omega) (getD_set_same r i v hi)
  have hw := fun x0 x1 x2 x3 => word_eq b i x0 x1 x2 x3
  generalize (b.getD (4 * i) 0).toNat = x0 at *
  generalize (b.getD (4 * i + 1) 0).toNat = x1 at *
  generalize (b.getD (4 * i + 2) 0).toNat = x2 at *
  generalize (b.getD (4 * i + 3) 0).toNat = x3 at *
  rw [hw x0 x1 x2 x3 rfl rfl rfl rfl, t0, t1, List.set_set, t2, List.set_set, t3, List.set_set]
  rw [orb 0 x0 c0 (by decide), show 0 * 256 + x0 = x0 by omega, orb x0 x1 c1 (by omega), orb (x0 * 256 + x1) x2 c2 (by omega), orb ((x0 * 256 + x1) * 256 + x2) x3 c3 (by omega)]
theorem took_four (b : List UInt8) : ∀ i, i ≤ 16 → took b (4 * i) = (List.range i).map (word b) ++ List.replicate (64 - i) 0
  | 0, _ => by simp [took]
  | i + 1, h => by
    have ih := took_four b i (by omega)
    rw [show 4 * (i + 1) = 4 * i + 3 + 1 by omega, took_succ, took_succ, took_succ, took_succ, ih]
    have hl : ((List.range i).map (word b)).length = i := by simp
    rw [take4 b _ i (by rw [List.getD_eq_getElem?_getD, List.getElem?_append_right (by rw [hl]; exact Nat.le_refl _), hl, Nat.sub_self, List.getElem?_replicate]; split <;> rfl) (by simp; omega)]
    rw [List.set_append_right _ _ (by rw [hl]; exact Nat.le_refl _), hl, Nat.sub_self, show 64 - i = (64 - (i + 1)) + 1 by omega, List.replicate_succ, List.set_cons_zero, List.range_succ, List.map_append]
    simp
theorem more_succ : ∀ (m : Nat) (w : List Nat), more (m + 1) w = (more m w) ++ [((more m w).getD ((more m w).length - 16) 0 + sig0 ((more m w).getD ((more m w).length - 15) 0) + (more m w).getD ((more m w).length - 7) 0 + sig1 ((more m w).getD ((more m w).length - 2) 0)) % 4294967296]
  | 0, w => rfl
  | m + 1, w => by
    show more (m + 1) (w ++ _) = _
    rw [more_succ m]
    rfl
theorem more_len : ∀ (m : Nat) (w : List Nat), (more m w).length = w.length + m
  | 0, w => rfl
  | m + 1, w => by rw [more_succ, List.length_append, more_len m]; simp; omega
theorem getD_left (l r : List Nat) (i : Nat) (h : i < l.length) : (l ++ r).getD i 0 = l.getD i 0 := by
  rw [List.getD_eq_getElem?_getD, List.getElem?_append_left h, List.getD_eq_getElem?_getD]
theorem grown_more (b : List UInt8) : ∀ m, m ≤ 48 → grown b (16 + m) = more m ((List.range 16).map (word b)) ++ List.replicate (48 - m) 0
  | 0, _ => by rw [grown16]; exact took_four b 16 (by omega)
  | m + 1, h => by
    have ih := grown_more b m (by omega)
    have hl : (more m ((List.range 16).map (word b))).length = 16 + m := by rw [more_len]; simp
    have g := fun i (h : i < 16 + m) => getD_left (more m ((List.range 16).map (word b))) (List.replicate (48 - m) 0) i (by rw [hl]; exact h)
    rw [show 16 + (m + 1) = 16 + m + 1 by omega, grown_succ b _ (by omega), ih, grew, g (16 + m - 16) (by omega), g (16 + m - 15) (by omega), g (16 + m - 7) (by omega), g (16 + m - 2) (by omega)]
    rw [List.set_append_right _ _ (by rw [hl]; exact Nat.le_refl _), hl, Nat.sub_self, show 48 - m = (48 - (m + 1)) + 1 by omega, List.replicate_succ, List.set_cons_zero, more_succ, hl]
    simp
theorem grown_sched (b : List UInt8) : grown b 64 = sched b := by
  have h := grown_more b 48 (Nat.le_refl _)
  simpa [sched] using h
theorem grown_lt (b : List UInt8) (k j : Nat) : (grown b k).getD j 0 < 4294967296 := by
  unfold grown
  generalize List.range (k - 16) = l
  have h0 : ∀ j, (took b 64).getD j 0 < 4294967296 := by
    unfold took
    generalize List.range 64 = l2
    have : ∀ (l : List Nat) (r : List Nat), (∀ j, r.getD j 0 < 4294967296) → ∀ j, (l.foldl (take1 b) r).getD j 0 < 4294967296 := by
      intro l
      induction l with
      | nil => intro r hr j; exact hr j
      | cons x l ih => intro r hr j; exact ih _ (fun j => set_lt r _ _ hr (or_lt _ _ (Nat.mod_lt _ (by decide)) (by have := (b.getD x 0).toNat_lt; omega)) j) j
    exact this l2 _ (fun j => by rw [List.getD_eq_getElem?_getD, List.getElem?_replicate]; split <;> simp)
  generalize took b 64 = r at h0
  induction l generalizing r with
  | nil => exact h0 j
  | cons x l ih => exact ih (grew r (16 + x)) (fun j => set_lt r _ _ h0 (Nat.mod_lt _ (by decide)) j)
theorem sched_len (b : List UInt8) : (sched b).length = 64 := by rw [sched, more_len]; simp
end Go.Proofs.YtiflieaemgamkaaDoor
