/- Plain facts on a burst: bits turned within 32 in a row are never passed by the sum of layer 2. No program stands here. -/
import Derived.Test.YtefhccegnjhhnaaDoorCm
namespace Go.Proofs.YtefhccegnjhhnaaDoor.Cm
open Go.RowKit

def it : Nat → Nat → Nat
  | 0, x => x
  | n + 1, x => it n (stp x)
def le : List UInt8 → Nat
  | [] => 0
  | c :: l => c.toNat + 256 * le l

theorem it_add : ∀ (m n x : Nat), it (m + n) x = it n (it m x)
  | 0, n, x => by rw [Nat.zero_add]; rfl
  | m + 1, n, x => by rw [show m + 1 + n = (m + n) + 1 by omega]; exact it_add m n (stp x)
theorem stp_xor (a b : Nat) : stp (a ^^^ b) = stp a ^^^ stp b := by
  unfold stp
  rw [Nat.xor_div_two, xor_mod]
  have hc : (if (a + b) % 2 = 1 then poly else 0) = (if a % 2 = 1 then poly else 0) ^^^ (if b % 2 = 1 then poly else 0) := by
    rcases Nat.mod_two_eq_zero_or_one a with h | h <;> rcases Nat.mod_two_eq_zero_or_one b with k | k
    · rw [if_neg (by omega), if_neg (by omega), if_neg (by omega)]; rfl
    · rw [if_pos (by omega), if_neg (by omega), if_pos (by omega), Nat.zero_xor]
    · rw [if_pos (by omega), if_pos (by omega), if_neg (by omega), Nat.xor_zero]
    · rw [if_neg (by omega), if_pos (by omega), if_pos (by omega), Nat.xor_self]
  rw [hc]
  generalize (if a % 2 = 1 then poly else 0) = p
  generalize (if b % 2 = 1 then poly else 0) = q
  rw [Nat.xor_assoc, Nat.xor_assoc]
  congr 1
  rw [← Nat.xor_assoc, Nat.xor_comm (b / 2) p, Nat.xor_assoc]
theorem it_xor : ∀ (n a b : Nat), it n (a ^^^ b) = it n a ^^^ it n b
  | 0, _, _ => rfl
  | n + 1, a, b => by show it n (stp (a ^^^ b)) = _; rw [stp_xor]; exact it_xor n _ _
theorem it_shift : ∀ (n a b : Nat), it n (a ^^^ 2 ^ n * b) = it n a ^^^ b
  | 0, a, b => by show a ^^^ 2 ^ 0 * b = a ^^^ b; rw [Nat.pow_zero, Nat.one_mul]
  | n + 1, a, b => by
    show it n (stp (a ^^^ 2 ^ (n + 1) * b)) = it n (stp a) ^^^ b
    rw [Nat.pow_succ, Nat.mul_comm (2 ^ n) 2, Nat.mul_assoc, stp_shift]
    exact it_shift n _ _
theorem it_zero : ∀ n, it n 0 = 0
  | 0 => rfl
  | n + 1 => by show it n (stp 0) = 0; rw [show stp 0 = 0 by decide]; exact it_zero n
theorem add_xor (c x : Nat) (h : c < 256) : c + 256 * x = c ^^^ 256 * x := by
  apply Nat.eq_of_testBit_eq
  intro i
  have e1 : 256 * x = 2 ^ 8 * x := rfl
  have e2 : c + 256 * x = 2 ^ 8 * x + c := by omega
  rw [e2, Nat.testBit_two_pow_mul_add _ h, Nat.testBit_xor, e1, Nat.testBit_two_pow_mul]
  by_cases hi : i < 8
  · have h2 : ¬ 8 ≤ i := by omega
    simp [hi, h2]
  · have h2 : 8 ≤ i := by omega
    have hp : (2 : Nat) ^ 8 ≤ 2 ^ i := Nat.pow_le_pow_right (by decide) h2
    have hz : c.testBit i = false := Nat.testBit_lt_two_pow (Nat.lt_of_lt_of_le h hp)
    simp [hi, h2, hz]
theorem upd_it (r : Nat) (c : UInt8) : upd r c = it 8 (r ^^^ c.toNat) := rfl
theorem run_le : ∀ (l : List UInt8) (r : Nat), run r l = it (8 * l.length) (r ^^^ le l)
  | [], r => by show r = it 0 (r ^^^ 0); rw [Nat.xor_zero]; rfl
  | c :: l, r => by
    show run (upd r c) l = _
    rw [run_le l, upd_it, List.length_cons, show 8 * (l.length + 1) = 8 + 8 * l.length by omega, it_add]
    congr 1
    rw [← it_shift 8 (r ^^^ c.toNat) (le l)]
    congr 1
    simp only [le]
    rw [add_xor _ _ c.toNat_lt, Nat.xor_assoc]
theorem stp_ne (x : Nat) (h : x < 4294967296) (h0 : x ≠ 0) : stp x ≠ 0 := by
  unfold stp
  rcases Nat.mod_two_eq_zero_or_one x with k | k
  · rw [if_neg (by omega), Nat.xor_zero]; omega
  · rw [if_pos k]
    intro e
    have h2 : (x / 2 ^^^ poly) ^^^ poly = poly := by rw [e, Nat.zero_xor]
    rw [Nat.xor_assoc, Nat.xor_self, Nat.xor_zero] at h2
    unfold poly at h2
    omega
theorem it_ne : ∀ (n x : Nat), x < 4294967296 → x ≠ 0 → it n x ≠ 0
  | 0, _, _, h0 => h0
  | n + 1, x, h, h0 => it_ne n (stp x) (stp_lt x h) (stp_ne x h h0)
theorem run_app (r : Nat) (a b : List UInt8) : run r (a ++ b) = run (run r a) b := by simp [run, List.foldl_append]

/-- what a sealed text's register comes to -/
theorem seal_run (m c : List UInt8) (hc : le c = 4294967295 - run 4294967295 m) (hl : c.length = 4) : run 4294967295 (m ++ c) = it 32 4294967295 := by
  have hlt := run_lt m 4294967295 (by omega)
  rw [run_app, run_le c, hl, hc, ← xor_ones _ hlt]
  congr 1
  rw [Nat.xor_comm 4294967295, ← Nat.xor_assoc, Nat.xor_self, Nat.zero_xor]

theorem mul_xor (n a b : Nat) : 2 ^ n * (a ^^^ b) = 2 ^ n * a ^^^ 2 ^ n * b := by
  apply Nat.eq_of_testBit_eq
  intro i
  rw [Nat.testBit_xor, Nat.testBit_two_pow_mul, Nat.testBit_two_pow_mul, Nat.testBit_two_pow_mul, Nat.testBit_xor]
  by_cases h : n ≤ i <;> simp [h]
theorem le_set : ∀ (l : List UInt8) (j : Nat) (h : j < l.length) (k : Nat) (_hk : k < 8), le (l.set j (UInt8.ofNat (l[j].toNat ^^^ 2 ^ k))) = le l ^^^ 2 ^ (8 * j + k)
  | [], j, h, _, _ => by simp at h
  | c :: l, 0, _, k, hk => by
    have hp : 2 ^ k < 256 := by have : 2 ^ k ≤ 2 ^ 7 := Nat.pow_le_pow_right (by omega) (by omega); omega
    have hx : c.toNat ^^^ 2 ^ k < 256 := Nat.xor_lt_two_pow (n := 8) c.toNat_lt hp
    simp only [List.set_cons_zero, le, List.getElem_cons_zero]
    rw [UInt8.toNat_ofNat', Nat.mod_eq_of_lt hx, add_xor _ _ hx, add_xor _ _ c.toNat_lt, Nat.mul_zero, Nat.zero_add, Nat.xor_assoc, Nat.xor_comm (2 ^ k), ← Nat.xor_assoc]
  | c :: l, j + 1, h, k, hk => by
    have ih := le_set l j (by simpa using h) k hk
    simp only [List.set_cons_succ, le, List.getElem_cons_succ]
    rw [ih, add_xor _ _ c.toNat_lt, add_xor _ _ c.toNat_lt, show (256 : Nat) = 2 ^ 8 from rfl, mul_xor, ← Nat.pow_add, show 8 + (8 * j + k) = 8 * (j + 1) + k by omega, Nat.xor_assoc]
theorem bit_up (turn i : Nat) (h : turn / 2 ^ i % 2 = 1) : turn % 2 ^ (i + 1) = turn % 2 ^ i ^^^ 2 ^ i := by
  apply Nat.eq_of_testBit_eq
  intro j
  have hb : turn.testBit i = true := by rw [Nat.testBit_eq_decide_div_mod_eq]; exact decide_eq_true h
  rw [Nat.testBit_xor, Nat.testBit_mod_two_pow, Nat.testBit_mod_two_pow, Nat.testBit_two_pow]
  rcases Nat.lt_trichotomy j i with h1 | h1 | h1
  · have a : j < i + 1 := by omega
    have b : ¬ i = j := by omega
    simp [h1, a, b]
  · subst h1; simp [hb]
  · have a : ¬ j < i + 1 := by omega
    have b : ¬ i = j := by omega
    have c : ¬ j < i := by omega
    simp [a, b, c]
theorem bit_no (turn i : Nat) (h : turn / 2 ^ i % 2 = 0) : turn % 2 ^ (i + 1) = turn % 2 ^ i := by
  apply Nat.eq_of_testBit_eq
  intro j
  have hb : turn.testBit i = false := by rw [Nat.testBit_eq_decide_div_mod_eq]; exact decide_eq_false (by omega)
  rw [Nat.testBit_mod_two_pow, Nat.testBit_mod_two_pow]
  rcases Nat.lt_trichotomy j i with h1 | h1 | h1
  · have a : j < i + 1 := by omega
    simp [h1, a]
  · subst h1; simp [hb]
  · have a : ¬ j < i + 1 := by omega
    have c : ¬ j < i := by omega
    simp [a, c]

/-- two texts of one length whose registers come to the same don't part in a burst -/
theorem burst (t u : List UInt8) (at_ turn : Nat) (hl : t.length = u.length) (h : le u = le t ^^^ 2 ^ at_ * turn) (ha : at_ + 32 ≤ 8 * t.length) (ht : turn < 4294967296) (h0 : turn ≠ 0)
    (he : run 4294967295 t = run 4294967295 u) : False := by
  rw [run_le, run_le, ← hl, h, ← Nat.xor_assoc, it_xor (8 * t.length) (4294967295 ^^^ le t)] at he
  have hz : it (8 * t.length) (2 ^ at_ * turn) = 0 := by
    generalize it (8 * t.length) (4294967295 ^^^ le t) = A at he
    generalize it (8 * t.length) (2 ^ at_ * turn) = B at he ⊢
    have : A ^^^ A = A ^^^ (A ^^^ B) := by rw [← he]
    rw [Nat.xor_self, ← Nat.xor_assoc, Nat.xor_self, Nat.zero_xor] at this
    exact this.symm
  have hs : it at_ (2 ^ at_ * turn) = turn := by
    have := it_shift at_ 0 turn
    rw [Nat.zero_xor, it_zero, Nat.zero_xor] at this
    exact this
  rw [show 8 * t.length = at_ + (8 * t.length - at_) by omega, it_add, hs] at hz
  exact it_ne _ _ ht h0 hz
end Go.Proofs.YtefhccegnjhhnaaDoor.Cm
