/- Plain facts on the sum of layer 2: bit by bit, and four bits at a time by a table. No program stands here. -/
import Derived.WalkKit
import Derived.Laws.BitsAllLaws
namespace Go.Proofs.YtiflieaemgamkaaGreatDoor.Cm
open Go.RowKit

def poly : Nat := 3988292384
def stp (r : Nat) : Nat := r / 2 ^^^ (if r % 2 = 1 then poly else 0)
def stp4 (r : Nat) : Nat := stp (stp (stp (stp r)))
def upd (r : Nat) (c : UInt8) : Nat := stp4 (stp4 (r ^^^ c.toNat))
def run (r : Nat) (l : List UInt8) : Nat := l.foldl upd r
def on (sum : Nat) (l : List UInt8) : Nat := 4294967295 - run (4294967295 - sum) l
def tab : List Nat := [0, 498536548, 997073096, 651767980, 1994146192, 1802195444, 1303535960, 1342533948, 3988292384, 4027552580, 3604390888, 3412177804, 2607071920, 2262029012, 2685067896, 3183342108]

theorem xor_mod (a b : Nat) : (a ^^^ b) % 2 = (a + b) % 2 := by
  have h0 : (a ^^^ b) % 2 ^ 1 = (a % 2 ^ 1) ^^^ (b % 2 ^ 1) := Nat.xor_mod_two_pow
  rw [show (2 : Nat) ^ 1 = 2 from rfl] at h0
  rw [h0, Nat.add_mod]
  rcases Nat.mod_two_eq_zero_or_one a with h | h <;> rcases Nat.mod_two_eq_zero_or_one b with k | k <;> rw [h, k] <;> rfl
theorem stp_shift (a b : Nat) : stp (a ^^^ 2 * b) = stp a ^^^ b := by
  unfold stp
  have h1 : (a ^^^ 2 * b) / 2 = a / 2 ^^^ b := by
    rw [Nat.xor_div_two]; congr 1; omega
  have h2 : (a ^^^ 2 * b) % 2 = a % 2 := by
    rw [xor_mod]; omega
  rw [h1, h2, Nat.xor_assoc, Nat.xor_comm b, ← Nat.xor_assoc]
theorem stp4_shift (a b : Nat) : stp4 (a ^^^ 16 * b) = stp4 a ^^^ b := by
  unfold stp4
  have e : 16 * b = 2 * (2 * (2 * (2 * b))) := by omega
  rw [e, stp_shift, stp_shift, stp_shift, stp_shift]
theorem xor_split (r : Nat) : r % 16 ^^^ 16 * (r / 16) = r := by
  apply Nat.eq_of_testBit_eq
  intro i
  have e1 : (16 * (r / 16)) = 2 ^ 4 * (r / 2 ^ 4) := by rfl
  have e2 : r % 16 = r % 2 ^ 4 := rfl
  rw [Nat.testBit_xor, e1, e2, Nat.testBit_mod_two_pow, Nat.testBit_two_pow_mul, Nat.testBit_div_two_pow]
  by_cases h : i < 4
  · have h2 : ¬ 4 ≤ i := by omega
    simp [h, h2]
  · have h2 : 4 ≤ i := by omega
    simp [h, h2]
theorem tab_is : ∀ n : Fin 16, stp4 n.val = tab.getD n.val 0 := by decide +kernel
theorem stp4_tab (r : Nat) : r / 16 ^^^ tab.getD (r % 16) 0 = stp4 r := by
  have h := stp4_shift (r % 16) (r / 16)
  rw [xor_split] at h
  rw [h, tab_is ⟨r % 16, by omega⟩, Nat.xor_comm]
theorem tab_lt : ∀ n : Fin 16, tab.getD n.val 0 < 4294967296 := by decide +kernel
theorem xor_lt (a b : Nat) (ha : a < 4294967296) (hb : b < 4294967296) : a ^^^ b < 4294967296 := Nat.xor_lt_two_pow (n := 32) ha hb
theorem stp_lt (r : Nat) (h : r < 4294967296) : stp r < 4294967296 := by
  unfold stp; apply xor_lt _ _ (by omega); split <;> decide
theorem stp4_lt (r : Nat) (h : r < 4294967296) : stp4 r < 4294967296 := stp_lt _ (stp_lt _ (stp_lt _ (stp_lt _ h)))
theorem upd_lt (r : Nat) (c : UInt8) (h : r < 4294967296) : upd r c < 4294967296 := stp4_lt _ (stp4_lt _ (xor_lt _ _ h (by have := c.toNat_lt; omega)))
theorem run_lt : ∀ (l : List UInt8) (r : Nat), r < 4294967296 → run r l < 4294967296
  | [], _, h => h
  | c :: l, _, h => run_lt l _ (upd_lt _ c h)
theorem run_snoc (r : Nat) (l : List UInt8) (c : UInt8) : run r (l ++ [c]) = upd (run r l) c := by simp [run, List.foldl_append]
theorem on_lt (sum : Nat) (l : List UInt8) : on sum l < 4294967296 := by unfold on; omega
theorem on_app (sum : Nat) (a b : List UInt8) (h : sum < 4294967296) : on (on sum a) b = on sum (a ++ b) := by
  unfold on
  have := run_lt a (4294967295 - sum) (by omega)
  rw [show 4294967295 - (4294967295 - run (4294967295 - sum) a) = run (4294967295 - sum) a by omega]
  simp [run, List.foldl_append]

theorem xor_ones (x : Nat) (h : x < 4294967296) : 4294967295 ^^^ x = 4294967295 - x := by
  have := congrArg BitVec.toNat (BitVec.not_def (x := BitVec.ofNat 32 x))
  rw [BitVec.toNat_not, BitVec.toNat_xor, BitVec.toNat_allOnes, BitVec.toNat_ofNat, Nat.mod_eq_of_lt (by omega)] at this
  exact this.symm
theorem not_is (x : Nat) (h : x < 4294967296) : bits BinOp.xor IntKind.u32 IntKind.u32.max (x : Int) = ((4294967295 - x : Nat) : Int) := by
  have e2 : IntKind.u32.max = ((4294967295 : Nat) : Int) := by decide
  rw [e2, u32_xor_nat _ _ (by omega) h, xor_ones x h]
theorem and15 (r : Nat) (h : r < 4294967296) : bits BinOp.and IntKind.u32 (r : Int) 15 = ((r % 16 : Nat) : Int) := by
  have := u32_and_nat r 15 h (by omega)
  rw [show ((15 : Nat) : Int) = 15 by rfl] at this
  rw [this, show (15 : Nat) = 2 ^ 4 - 1 by rfl, Nat.and_two_pow_sub_one_eq_mod]
theorem xor_is (a b : Nat) (ha : a < 4294967296) (hb : b < 4294967296) : bits BinOp.xor IntKind.u32 (a : Int) (b : Int) = ((a ^^^ b : Nat) : Int) := u32_xor_nat a b ha hb

/-- bit by bit -/
def bitsOf : Nat → Nat → List Nat
  | 0, _ => []
  | f + 1, c => c % 2 :: bitsOf f (c / 2)
def bstep (r b : Nat) : Nat := r / 2 ^^^ (if r % 2 ≠ b then poly else 0)
theorem bstep_is (r c : Nat) : stp (r ^^^ c) = bstep r (c % 2) ^^^ (c / 2) := by
  have e : r ^^^ c = (r ^^^ c % 2) ^^^ 2 * (c / 2) := by
    rw [Nat.xor_assoc]
    congr 1
    apply Nat.eq_of_testBit_eq
    intro i
    have e1 : 2 * (c / 2) = 2 ^ 1 * (c / 2 ^ 1) := by rfl
    have e2 : c % 2 = c % 2 ^ 1 := rfl
    rw [Nat.testBit_xor, e1, e2, Nat.testBit_mod_two_pow, Nat.testBit_two_pow_mul, Nat.testBit_div_two_pow]
    by_cases h : i < 1
    · have h2 : ¬ 1 ≤ i := by omega
      simp [h, h2]
    · have h2 : 1 ≤ i := by omega
      simp [h, h2]
  rw [e, stp_shift]
  congr 1
  unfold stp bstep
  have h1 : (r ^^^ c % 2) / 2 = r / 2 := by
    rw [Nat.xor_div_two]
    have : c % 2 / 2 = 0 := by omega
    rw [this, Nat.xor_zero]
  have h2 : (r ^^^ c % 2) % 2 = (r % 2 + c % 2) % 2 := by
    rw [xor_mod]; omega
  rw [h1, h2]
  congr 1
  by_cases h : r % 2 ≠ c % 2
  · rw [if_pos h, if_pos (by omega)]
  · rw [if_neg h, if_neg (by omega)]
theorem bits_run : ∀ (f r c : Nat), (Nat.rec (motive := fun _ => Nat) (r ^^^ c) (fun _ x => stp x) f : Nat) = (bitsOf f c).foldl bstep r ^^^ c / 2 ^ f
  | 0, r, c => by show r ^^^ c = r ^^^ c / 2 ^ 0; simp
  | f + 1, r, c => by
    have key : ∀ (g x : Nat), (Nat.rec (motive := fun _ => Nat) x (fun _ y => stp y) (g + 1) : Nat) = Nat.rec (motive := fun _ => Nat) (stp x) (fun _ y => stp y) g := by
      intro g
      induction g with
      | zero => intro x; rfl
      | succ g ih => intro x; show stp _ = stp _; rw [← ih x]
    rw [key, bstep_is, bits_run f (bstep r (c % 2)) (c / 2)]
    simp only [bitsOf, List.foldl_cons]
    rw [Nat.div_div_eq_div_mul, Nat.pow_succ, Nat.mul_comm 2]
theorem upd_bits (r : Nat) (c : UInt8) : (bitsOf 8 c.toNat).foldl bstep r = upd r c := by
  have h := bits_run 8 r c.toNat
  have hc : c.toNat / 2 ^ 8 = 0 := by have := c.toNat_lt; omega
  rw [hc, Nat.xor_zero] at h
  rw [← h]; rfl
theorem run_bits : ∀ (l : List UInt8) (r : Nat), (l.flatMap fun c => bitsOf 8 c.toNat).foldl bstep r = run r l
  | [], r => rfl
  | c :: l, r => by rw [List.flatMap_cons, List.foldl_append, upd_bits, run_bits l]; rfl
end Go.Proofs.YtiflieaemgamkaaGreatDoor.Cm
