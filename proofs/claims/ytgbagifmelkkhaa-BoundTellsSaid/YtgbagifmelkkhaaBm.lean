/- Plain arithmetic of layer 45: the bounds of calls. No condition. -/
import Derived.Test.YtgbagifmelkkhaaRm
namespace Bd
open Ar
/-- the bound of a call -/
def on (n k : Int) : Int := if hf n = 0 then 0 else if k = 1 ∨ k = 13 then hf n + 5 else if 2 ≤ k ∧ k ≤ 6 then 5 else if k = 17 ∨ k = 18 then hf n + 3 else 0
/-- the bound of opening -/
def op (n : Int) : Int := if hf n = 0 then 0 else 2 * n + 8
/-- the bounds of calls together -/
def al (n a : Int) (l : List Int) : Int := l.foldl (fun s k => s + on n k) a
theorem hf0 (n : Int) (h : n < 16 ∨ 4096 < n) : hf n = 0 := hf_out n h
theorem hf1 (n : Int) (h0 : 16 ≤ n) (h1 : n ≤ 4096) : 7 ≤ hf n := by rw [hf_in n h0 h1]; omega
theorem on_bd (n k : Int) : 0 ≤ on n k ∧ on n k ≤ 2052 := by
  have := hf_bd n
  unfold on; split
  · omega
  · split
    · omega
    · split
      · omega
      · split <;> omega
theorem op_bd (n : Int) : 0 ≤ op n ∧ op n ≤ 8200 := by
  unfold op hf; split <;> split at * <;> omega
theorem on_out (n k : Int) (h : hf n = 0) : on n k = 0 := by unfold on; rw [if_pos h]
theorem on_a (n k : Int) (h : 7 ≤ hf n) (hk : k = 1 ∨ k = 13) : on n k = hf n + 5 := by unfold on; rw [if_neg (by omega), if_pos hk]
theorem on_b (n k : Int) (h : 7 ≤ hf n) (hk : 2 ≤ k ∧ k ≤ 6) : on n k = 5 := by unfold on; rw [if_neg (by omega), if_neg (by omega), if_pos hk]
theorem on_c (n k : Int) (h : 7 ≤ hf n) (hk : k = 17 ∨ k = 18) : on n k = hf n + 3 := by unfold on; rw [if_neg (by omega), if_neg (by omega), if_neg (by omega), if_pos hk]
theorem on_d (n k : Int) (h1 : ¬ k = 1) (h2 : ¬ (2 ≤ k ∧ k ≤ 6)) (h3 : ¬ k = 13) (h4 : ¬ k = 17) (h5 : ¬ k = 18) : on n k = 0 := by
  unfold on; repeat' split
  all_goals omega
theorem op_out (n : Int) (h : hf n = 0) : op n = 0 := by unfold op; rw [if_pos h]
theorem op_in (n : Int) (h : 7 ≤ hf n) : op n = 2 * n + 8 := by unfold op; rw [if_neg (by omega)]
theorem al_bd (n : Int) (l : List Int) : ∀ a, a ≤ al n a l ∧ al n a l ≤ a + 2052 * l.length := by
  induction l with
  | nil => intro a; simp [al]
  | cons k t ih =>
    intro a
    have h := ih (a + on n k)
    have := on_bd n k
    simp only [al, List.foldl_cons, List.length_cons] at *
    push_cast
    omega
theorem al_snoc (n a : Int) (l : List Int) (k : Int) : al n a (l ++ [k]) = al n a l + on n k := by simp [al, List.foldl_append]
theorem take_snoc (l : List Int) (k : Nat) (h : k < l.length) : l.take (k + 1) = l.take k ++ [l.getD k 0] := by
  rw [List.take_succ_eq_append_getElem h, List.getD_eq_getElem?_getD, List.getElem?_eq_getElem h]; rfl
end Bd
