/- Contracts of bound.Open, Do and All and of the document's answers beside them; the chapter's example. Condition of All: at most 1000 calls. -/
import Derived.Test.YtgbagifmelkkhaaRa
import Derived.Test.YtgbagifmelkkhaaBm
import Derived.LoopTactic
namespace Go.Proofs.Ytgbagifmelkkhaa
open Go.RowKit Ar Bd

set_option maxHeartbeats 400000 in
theorem bOpen_any (n : Int) (w : World) (hn0 : -9223372036854775808 ≤ n) (hn1 : n ≤ 9223372036854775807) :
    Calls Try.prog 33 #[.int .i64 n] w fun e w' => e = .returned (.int .i64 (op n)) ∧ w = w' := by
  by_cases g : n < 16 ∨ 4096 < n
  · have HH := Lib.hid (op_out n (hf0 n g))
    have K := Lib.hid (ck_out n g)
    clear g
    go_enter Try.func33, Try.ntmps33
    go_wp2_with fail
    refine (check_any n _ hn0 hn1).mono ?_
    rintro e w' ⟨rfl, rfl⟩
    rw [K.out]
    go_wp2
    go_ret
    exact ⟨ret_i HH.out.symm, rfl⟩
  · have g1 : 16 ≤ n := by omega
    have g2 : n ≤ 4096 := by omega
    have HH := Lib.hid (op_in n (hf1 n g1 g2))
    have K := Lib.hid (ck_in n g1 g2)
    clear g
    go_enter Try.func33, Try.ntmps33
    go_wp2_with fail
    refine (check_any n _ hn0 hn1).mono ?_
    rintro e w' ⟨rfl, rfl⟩
    rw [K.out]
    go_wp2
    go_ret
    exact ⟨ret_i HH.out.symm, rfl⟩

set_option maxHeartbeats 1600000 in
theorem bDo_any (n k : Int) (w : World) (hn0 : -9223372036854775808 ≤ n) (hn1 : n ≤ 9223372036854775807) :
    Calls Try.prog 34 #[.int .i64 n, .int .i64 k] w fun e w' => e = .returned (.int .i64 (on n k)) ∧ w = w' := by
  have hb := hf_bd n
  by_cases g : n < 16 ∨ 4096 < n
  · have HH := Lib.hid (on_out n k (hf0 n g))
    have K := Lib.hid (ck_out n g)
    clear g
    go_enter Try.func34, Try.ntmps34
    go_wp2_with fail
    refine (check_any n _ hn0 hn1).mono ?_
    rintro e w' ⟨rfl, rfl⟩
    rw [K.out]
    go_wp2
    go_ret
    exact ⟨ret_i HH.out.symm, rfl⟩
  have g1 : 16 ≤ n := by omega
  have g2 : n ≤ 4096 := by omega
  have G := hf1 n g1 g2
  have K := Lib.hid (ck_in n g1 g2)
  clear g
  by_cases c : k = 1 ∨ k = 13
  · have HH := Lib.hid (on_a n k G c)
    rcases (show k = 1 ∨ k = 13 by omega) with rfl | rfl
    all_goals clear c
    all_goals go_enter Try.func34, Try.ntmps34
    all_goals go_wp2_with fail
    all_goals refine (check_any n _ hn0 hn1).mono ?_
    all_goals rintro e w' ⟨rfl, rfl⟩
    all_goals rw [K.out]
    all_goals go_wp2_with fail
    all_goals refine (half_any n _ hn0 hn1).mono ?_
    all_goals rintro e w' ⟨rfl, rfl⟩
    all_goals go_wp2
    all_goals go_ret
    all_goals exact ⟨ret_i HH.out.symm, rfl⟩
  have d1 : (k == 1) = false := by simp; omega
  have d13 : (k == 13) = false := by simp; omega
  by_cases c : 2 ≤ k ∧ k ≤ 6
  · have HH := Lib.hid (on_b n k G c)
    rcases (show k = 2 ∨ k = 3 ∨ k = 4 ∨ k = 5 ∨ k = 6 by omega) with rfl | rfl | rfl | rfl | rfl
    all_goals clear c
    all_goals go_enter Try.func34, Try.ntmps34
    all_goals go_wp2_with fail
    all_goals refine (check_any n _ hn0 hn1).mono ?_
    all_goals rintro e w' ⟨rfl, rfl⟩
    all_goals rw [K.out]
    all_goals go_wp2
    all_goals go_ret
    all_goals exact ⟨ret_i HH.out.symm, rfl⟩
  have d2 : (k == 2) = false := by simp; omega
  have d3 : (k == 3) = false := by simp; omega
  have d4 : (k == 4) = false := by simp; omega
  have d5 : (k == 5) = false := by simp; omega
  have d6 : (k == 6) = false := by simp; omega
  by_cases c : k = 17 ∨ k = 18
  · have HH := Lib.hid (on_c n k G c)
    rcases (show k = 17 ∨ k = 18 by omega) with rfl | rfl
    all_goals clear c
    all_goals go_enter Try.func34, Try.ntmps34
    all_goals go_wp2_with fail
    all_goals refine (check_any n _ hn0 hn1).mono ?_
    all_goals rintro e w' ⟨rfl, rfl⟩
    all_goals rw [K.out]
    all_goals go_wp2_with fail
    all_goals refine (half_any n _ hn0 hn1).mono ?_
    all_goals rintro e w' ⟨rfl, rfl⟩
    all_goals go_wp2
    all_goals go_ret
    all_goals exact ⟨ret_i HH.out.symm, rfl⟩
  have d17 : (k == 17) = false := by simp; omega
  have d18 : (k == 18) = false := by simp; omega
  have HH := Lib.hid (on_d n k (by simpa using d1) (by omega) (by simpa using d13) (by simpa using d17) (by simpa using d18))
  go_enter Try.func34, Try.ntmps34
  go_wp2_with fail
  refine (check_any n _ hn0 hn1).mono ?_
  rintro e w' ⟨rfl, rfl⟩
  rw [K.out]
  go_wp2
  go_ret
  exact ⟨ret_i HH.out.symm, rfl⟩

set_option maxHeartbeats 1600000 in
theorem bOne_any (n k : Int) (w : World) (hn0 : -9223372036854775808 ≤ n) (hn1 : n ≤ 9223372036854775807) :
    Calls Try.prog 32 #[.int .i64 n, .int .i64 k] w fun e w' => e = .returned (.int .i64 (on n k)) ∧ w = w' := by
  have hb := hf_bd n
  by_cases g : n < 16 ∨ 4096 < n
  · have HH := Lib.hid (on_out n k (hf0 n g))
    have K := Lib.hid (hf0 n g)
    clear g hb
    go_enter Try.func32, Try.ntmps32
    go_wp2_with fail
    refine (refHalf_any n _ hn0 hn1).mono ?_
    rintro e w' ⟨rfl, rfl⟩
    rw [K.out]
    go_wp2
    go_ret
    exact ⟨ret_i HH.out.symm, rfl⟩
  have g1 : 16 ≤ n := by omega
  have g2 : n ≤ 4096 := by omega
  have G := hf1 n g1 g2
  have z0 : (hf n == 0) = false := by simp; omega
  clear g
  by_cases c : k = 1 ∨ k = 13
  · have HH := Lib.hid (on_a n k G c)
    rcases (show k = 1 ∨ k = 13 by omega) with rfl | rfl
    all_goals clear c
    all_goals go_enter Try.func32, Try.ntmps32
    all_goals go_wp2_with fail
    all_goals refine (refHalf_any n _ hn0 hn1).mono ?_
    all_goals rintro e w' ⟨rfl, rfl⟩
    all_goals go_wp2_with fail
    all_goals refine (refHalf_any n _ hn0 hn1).mono ?_
    all_goals rintro e w' ⟨rfl, rfl⟩
    all_goals go_wp2
    all_goals go_ret
    all_goals exact ⟨ret_i HH.out.symm, rfl⟩
  have d1 : (k == 1) = false := by simp; omega
  have d13 : (k == 13) = false := by simp; omega
  by_cases c : 2 ≤ k ∧ k ≤ 6
  · have HH := Lib.hid (on_b n k G c)
    rcases (show k = 2 ∨ k = 3 ∨ k = 4 ∨ k = 5 ∨ k = 6 by omega) with rfl | rfl | rfl | rfl | rfl
    all_goals clear c
    all_goals go_enter Try.func32, Try.ntmps32
    all_goals go_wp2_with fail
    all_goals refine (refHalf_any n _ hn0 hn1).mono ?_
    all_goals rintro e w' ⟨rfl, rfl⟩
    all_goals go_wp2
    all_goals go_ret
    all_goals exact ⟨ret_i HH.out.symm, rfl⟩
  have d2 : (k == 2) = false := by simp; omega
  have d3 : (k == 3) = false := by simp; omega
  have d4 : (k == 4) = false := by simp; omega
  have d5 : (k == 5) = false := by simp; omega
  have d6 : (k == 6) = false := by simp; omega
  by_cases c : k = 17 ∨ k = 18
  · have HH := Lib.hid (on_c n k G c)
    rcases (show k = 17 ∨ k = 18 by omega) with rfl | rfl
    all_goals clear c
    all_goals go_enter Try.func32, Try.ntmps32
    all_goals go_wp2_with fail
    all_goals refine (refHalf_any n _ hn0 hn1).mono ?_
    all_goals rintro e w' ⟨rfl, rfl⟩
    all_goals go_wp2_with fail
    all_goals refine (refHalf_any n _ hn0 hn1).mono ?_
    all_goals rintro e w' ⟨rfl, rfl⟩
    all_goals go_wp2
    all_goals go_ret
    all_goals exact ⟨ret_i HH.out.symm, rfl⟩
  have d17 : (k == 17) = false := by simp; omega
  have d18 : (k == 18) = false := by simp; omega
  have HH := Lib.hid (on_d n k (by simpa using d1) (by omega) (by simpa using d13) (by simpa using d17) (by simpa using d18))
  by_cases l : 2 ≤ k
  · have l2 : decide (k ≤ 6) = false := by simp; omega
    go_enter Try.func32, Try.ntmps32
    go_wp2_with fail
    refine (refHalf_any n _ hn0 hn1).mono ?_
    rintro e w' ⟨rfl, rfl⟩
    go_wp2
    go_ret
    exact ⟨ret_i HH.out.symm, rfl⟩
  · have l2 : decide (2 ≤ k) = false := by simpa using l
    go_enter Try.func32, Try.ntmps32
    go_wp2_with fail
    refine (refHalf_any n _ hn0 hn1).mono ?_
    rintro e w' ⟨rfl, rfl⟩
    go_wp2
    go_ret
    exact ⟨ret_i HH.out.symm, rfl⟩

/-- where a slice of integers lies -/
def Ints (w : World) (a : Option Addr) (len : Nat) (zs : List Int) : Prop := zs.length = len ∧ (0 < len → ∃ b off, a = some ⟨b, off, none⟩ ∧ ∀ i, i < len → w.cell? ⟨b, off + i, none⟩ = some (.int .i64 (zs.getD i 0)))

set_option maxHeartbeats 1600000 in
theorem bAll_any (n : Int) (a : Option Addr) (len cap : Nat) (zs : List Int) (w : World) (hsl : Ints w a len zs) (hlen : len ≤ 1000) (hn0 : -9223372036854775808 ≤ n) (hn1 : n ≤ 9223372036854775807) :
    Calls Try.prog 35 #[.int .i64 n, .slice a len cap] w fun e w' => e = .returned (.int .i64 (al n (op n) zs)) ∧ w = w' := by
  obtain ⟨hl, hsl⟩ := hsl
  have hob := op_bd n
  by_cases h0 : len = 0
  · subst h0
    obtain rfl : zs = [] := List.length_eq_zero_iff.1 hl
    go_enter Try.func35, Try.ntmps35
    go_wp2_with fail
    refine (bOpen_any n _ hn0 hn1).mono ?_
    rintro e w' ⟨rfl, rfl⟩
    go_wp2_with fail
    go_loop [5, 12] (fun s i => i = .int .i64 0 ∧ s = .int .i64 (op n)) (fun _ i => 0)
    case atStart => exact ⟨rfl, rfl⟩
    case round =>
      obtain ⟨rfl, rfl⟩ := hrel
      go_wp2
      go_ret
      exact ⟨rfl, rfl⟩
  obtain ⟨b, off, rfl, hcell⟩ := hsl (by omega)
  have HL := Lib.hid hl
  have HC := Lib.hid hcell
  clear hl hcell hsl h0
  go_enter Try.func35, Try.ntmps35
  go_wp2_with fail
  refine (bOpen_any n _ hn0 hn1).mono ?_
  rintro e w' ⟨rfl, rfl⟩
  go_wp2_with fail
  go_loop [5, 12] (fun s i => ∃ k : Nat, k ≤ len ∧ i = .int .i64 (k : Int) ∧ s = .int .i64 (al n (op n) (zs.take k))) (fun _ i => len - (intOf i).toNat)
  case atStart => exact ⟨0, Nat.zero_le _, rfl, rfl⟩
  case round =>
    obtain ⟨k, hk, rfl, rfl⟩ := hrel
    have ab := al_bd n (zs.take k) (op n)
    have ab2 : (zs.take k).length ≤ k := List.length_take_le _ _
    by_cases hlt : k < len
    · have hcl := HC.out k hlt
      have ob := on_bd n (zs.getD k 0)
      have hs := al_snoc n (op n) (zs.take k) (zs.getD k 0)
      rw [← take_snoc zs k (by rw [HL.out]; exact hlt)] at hs
      have HS := Lib.hid hs
      clear hs
      generalize zs.getD k 0 = x at hcl ob HS
      go_wp2_with fail
      refine (bDo_any n x _ hn0 hn1).mono ?_
      rintro e w' ⟨rfl, rfl⟩
      go_wp2
      go_round
      case rel => exact ⟨k + 1, by omega, by go_num, by rw [HS.out]⟩
      case measure => simp [intOf]; omega
    · have hfin : zs.take k = zs := List.take_of_length_le (by rw [HL.out]; omega)
      have HF := Lib.hid hfin
      clear hfin
      go_wp2
      go_ret
      exact ⟨ret_i (by rw [HF.out]), rfl⟩

theorem on_16_1 : on 16 1 = 12 := rfl
theorem op_16 : op 16 = 40 := rfl
theorem on_16_7 : on 16 7 = 0 := rfl
set_option maxHeartbeats 400000 in
theorem boundAwake_any (w : World) : Calls Try.prog 31 #[] w fun e w' => e = .returned (.bool true) ∧ w = w' := by
  go_enter Try.func31, Try.ntmps31
  go_wp2_with fail
  refine (bDo_any 16 1 _ (by omega) (by omega)).mono ?_
  rintro e w' ⟨rfl, rfl⟩
  rw [on_16_1]
  go_wp2_with fail
  refine (bOpen_any 16 _ (by omega) (by omega)).mono ?_
  rintro e w' ⟨rfl, rfl⟩
  rw [op_16]
  go_wp2_with fail
  refine (bDo_any 16 7 _ (by omega) (by omega)).mono ?_
  rintro e w' ⟨rfl, rfl⟩
  rw [on_16_7]
  go_wp2
  go_ret
  exact ⟨rfl, rfl⟩
end Go.Proofs.Ytgbagifmelkkhaa
