/- Contracts of area.Of and of the document's answer beside it: for what a sector is, for all numbers of 64 bits. -/
import Derived.Test.YtgbagifmelkkhaaRb
namespace Go.Proofs.Ytgbagifmelkkhaa
open Go.RowKit Ar

theorem sub_lg (n h p s : Int) (h2 : s < fs n h + hf n) : (s < lg n h p ↔ s - fs n h < sc p) := by
  unfold lg; omega

set_option maxHeartbeats 1600000 in
theorem of_any (n a h p num t r s : Int) (w : World) (hn0 : -9223372036854775808 ≤ n) (hn1 : n ≤ 9223372036854775807) (hp0 : -9223372036854775808 ≤ p) (hp1 : p ≤ 9223372036854775807) (ht0 : -9223372036854775808 ≤ t) (ht1 : t ≤ 9223372036854775807) (hr0 : -9223372036854775808 ≤ r) (hr1 : r ≤ 9223372036854775807) (hs0 : -9223372036854775808 ≤ s) (hs1 : s ≤ 9223372036854775807) :
    Calls Try.prog 29 #[.int .i64 n, .agg #[.int .i64 a, .int .i64 h, .int .i64 p, .int .i64 num], .int .i64 t, .int .i64 r, .int .i64 s] w fun e w' => e = .returned (.int .i64 (ofv n h p t r s)) ∧ Below w.heap.size w w' := by
  by_cases a1 : n < 16 ∨ 4096 < n
  · have K := Lib.hid (ck_out n a1)
    have HH := Lib.hid (show ofv n h p t r s = 6 from if_pos (by omega))
    clear a1
    have b0 := hf_bd n
    have b1 := fs_bd n h
    have b2 := sc_bd t ht1
    have b3 := lg_bd n h p hp1
    go_enter Try.func29, Try.ntmps29
    go_wp2_with fail
    refine (log_any n h p _ hn0 hn1 hp0 hp1).mono ?_
    rintro e w' ⟨rfl, rfl⟩
    go_wp2_with fail
    refine (check_any n _ hn0 hn1).mono ?_
    rintro e w' ⟨rfl, rfl⟩
    rw [K.out]
    go_wp2
    go_ret
    exact ⟨ret_i HH.out.symm, (Below.refl _ _).alloc (Nat.le_refl _) _⟩
  have K := Lib.hid (ck_in n (by omega) (by omega))
  have n1 : 16 ≤ n := by omega
  have n2 : n ≤ 4096 := by omega
  clear a1
  by_cases a3 : s < 0
  · have HH := Lib.hid (show ofv n h p t r s = 6 from if_pos (by omega))
    have b0 := hf_bd n
    have b1 := fs_bd n h
    have b2 := sc_bd t ht1
    have b3 := lg_bd n h p hp1
    go_enter Try.func29, Try.ntmps29
    go_wp2_with fail
    refine (log_any n h p _ hn0 hn1 hp0 hp1).mono ?_
    rintro e w' ⟨rfl, rfl⟩
    go_wp2_with fail
    refine (check_any n _ hn0 hn1).mono ?_
    rintro e w' ⟨rfl, rfl⟩
    rw [K.out]
    go_wp2
    go_ret
    exact ⟨ret_i HH.out.symm, (Below.refl _ _).alloc (Nat.le_refl _) _⟩
  by_cases a4 : n ≤ s
  · have HH := Lib.hid (show ofv n h p t r s = 6 from if_pos (by omega))
    have c3 : decide (s < 0) = false := by simp; omega
    have b0 := hf_bd n
    have b1 := fs_bd n h
    have b2 := sc_bd t ht1
    have b3 := lg_bd n h p hp1
    go_enter Try.func29, Try.ntmps29
    go_wp2_with fail
    refine (log_any n h p _ hn0 hn1 hp0 hp1).mono ?_
    rintro e w' ⟨rfl, rfl⟩
    go_wp2_with fail
    refine (check_any n _ hn0 hn1).mono ?_
    rintro e w' ⟨rfl, rfl⟩
    rw [K.out]
    go_wp2
    go_ret
    exact ⟨ret_i HH.out.symm, (Below.refl _ _).alloc (Nat.le_refl _) _⟩
  by_cases a5 : s < 2
  · have HH := Lib.hid (show ofv n h p t r s = 0 by unfold ofv; rw [if_neg (by omega), if_pos (by omega)])
    have c3 : decide (s < 0) = false := by simp; omega
    have c4 : decide (n ≤ s) = false := by simp; omega
    have b0 := hf_bd n
    have b1 := fs_bd n h
    have b2 := sc_bd t ht1
    have b3 := lg_bd n h p hp1
    go_enter Try.func29, Try.ntmps29
    go_wp2_with fail
    refine (log_any n h p _ hn0 hn1 hp0 hp1).mono ?_
    rintro e w' ⟨rfl, rfl⟩
    go_wp2_with fail
    refine (check_any n _ hn0 hn1).mono ?_
    rintro e w' ⟨rfl, rfl⟩
    rw [K.out]
    go_wp2
    go_ret
    exact ⟨ret_i HH.out.symm, (Below.refl _ _).alloc (Nat.le_refl _) _⟩
  by_cases a6 : s < fs n h
  · have HH := Lib.hid (show ofv n h p t r s = 5 by unfold ofv; rw [if_neg (by omega), if_neg (by omega), if_pos (by omega)])
    have c3 : decide (s < 0) = false := by simp; omega
    have c4 : decide (n ≤ s) = false := by simp; omega
    have c5 : decide (s < 2) = false := by simp; omega
    have b0 := hf_bd n
    have b1 := fs_bd n h
    have b2 := sc_bd t ht1
    have b3 := lg_bd n h p hp1
    go_enter Try.func29, Try.ntmps29
    go_wp2_with fail
    refine (log_any n h p _ hn0 hn1 hp0 hp1).mono ?_
    rintro e w' ⟨rfl, rfl⟩
    go_wp2_with fail
    refine (check_any n _ hn0 hn1).mono ?_
    rintro e w' ⟨rfl, rfl⟩
    rw [K.out]
    go_wp2_with fail
    refine (first_any n h _ hn0 hn1).mono ?_
    rintro e w' ⟨rfl, rfl⟩
    go_wp2
    go_ret
    exact ⟨ret_i HH.out.symm, (Below.refl _ _).alloc (Nat.le_refl _) _⟩
  by_cases a7 : fs n h + hf n - 1 < s
  · have HH := Lib.hid (show ofv n h p t r s = 5 by unfold ofv; rw [if_neg (by omega), if_neg (by omega), if_pos (by omega)])
    have c3 : decide (s < 0) = false := by simp; omega
    have c4 : decide (n ≤ s) = false := by simp; omega
    have c5 : decide (s < 2) = false := by simp; omega
    have c6 : decide (s < fs n h) = false := by simp; omega
    have b0 := hf_bd n
    have b1 := fs_bd n h
    have b2 := sc_bd t ht1
    have b3 := lg_bd n h p hp1
    go_enter Try.func29, Try.ntmps29
    go_wp2_with fail
    refine (log_any n h p _ hn0 hn1 hp0 hp1).mono ?_
    rintro e w' ⟨rfl, rfl⟩
    go_wp2_with fail
    refine (check_any n _ hn0 hn1).mono ?_
    rintro e w' ⟨rfl, rfl⟩
    rw [K.out]
    go_wp2_with fail
    refine (first_any n h _ hn0 hn1).mono ?_
    rintro e w' ⟨rfl, rfl⟩
    go_wp2_with fail
    refine (last_any n h _ hn0 hn1).mono ?_
    rintro e w' ⟨rfl, rfl⟩
    go_wp2
    go_ret
    exact ⟨ret_i HH.out.symm, (Below.refl _ _).alloc (Nat.le_refl _) _⟩
  by_cases a8 : s < lg n h p
  · have HH := Lib.hid (show ofv n h p t r s = 1 by unfold ofv; rw [if_neg (by omega), if_neg (by omega), if_neg (by omega), if_pos (by omega)])
    have c3 : decide (s < 0) = false := by simp; omega
    have c4 : decide (n ≤ s) = false := by simp; omega
    have c5 : decide (s < 2) = false := by simp; omega
    have c6 : decide (s < fs n h) = false := by simp; omega
    have c7 : decide (fs n h + hf n - 1 < s) = false := by simp; omega
    have b0 := hf_bd n
    have b1 := fs_bd n h
    have b2 := sc_bd t ht1
    have b3 := lg_bd n h p hp1
    go_enter Try.func29, Try.ntmps29
    go_wp2_with fail
    refine (log_any n h p _ hn0 hn1 hp0 hp1).mono ?_
    rintro e w' ⟨rfl, rfl⟩
    go_wp2_with fail
    refine (check_any n _ hn0 hn1).mono ?_
    rintro e w' ⟨rfl, rfl⟩
    rw [K.out]
    go_wp2_with fail
    refine (first_any n h _ hn0 hn1).mono ?_
    rintro e w' ⟨rfl, rfl⟩
    go_wp2_with fail
    refine (last_any n h _ hn0 hn1).mono ?_
    rintro e w' ⟨rfl, rfl⟩
    go_wp2
    go_ret
    exact ⟨ret_i HH.out.symm, (Below.refl _ _).alloc (Nat.le_refl _) _⟩
  by_cases a9 : s < lg n h p + sc t
  · have HH := Lib.hid (show ofv n h p t r s = 2 by unfold ofv; rw [if_neg (by omega), if_neg (by omega), if_neg (by omega), if_neg (by omega), if_pos (by omega)])
    have c3 : decide (s < 0) = false := by simp; omega
    have c4 : decide (n ≤ s) = false := by simp; omega
    have c5 : decide (s < 2) = false := by simp; omega
    have c6 : decide (s < fs n h) = false := by simp; omega
    have c7 : decide (fs n h + hf n - 1 < s) = false := by simp; omega
    have c8 : decide (s < lg n h p) = false := by simp; omega
    have b0 := hf_bd n
    have b1 := fs_bd n h
    have b2 := sc_bd t ht1
    have b3 := lg_bd n h p hp1
    go_enter Try.func29, Try.ntmps29
    go_wp2_with fail
    refine (log_any n h p _ hn0 hn1 hp0 hp1).mono ?_
    rintro e w' ⟨rfl, rfl⟩
    go_wp2_with fail
    refine (check_any n _ hn0 hn1).mono ?_
    rintro e w' ⟨rfl, rfl⟩
    rw [K.out]
    go_wp2_with fail
    refine (first_any n h _ hn0 hn1).mono ?_
    rintro e w' ⟨rfl, rfl⟩
    go_wp2_with fail
    refine (last_any n h _ hn0 hn1).mono ?_
    rintro e w' ⟨rfl, rfl⟩
    go_wp2_with fail
    refine (sectors_any t _ ht0 ht1).mono ?_
    rintro e w' ⟨rfl, rfl⟩
    go_wp2
    go_ret
    exact ⟨ret_i HH.out.symm, (Below.refl _ _).alloc (Nat.le_refl _) _⟩
  by_cases b9 : fs n h + hf n - 1 - s < r
  · have HH := Lib.hid (show ofv n h p t r s = 3 by unfold ofv; rw [if_neg (by omega), if_neg (by omega), if_neg (by omega), if_neg (by omega), if_neg (by omega), if_pos (by omega)])
    have c3 : decide (s < 0) = false := by simp; omega
    have c4 : decide (n ≤ s) = false := by simp; omega
    have c5 : decide (s < 2) = false := by simp; omega
    have c6 : decide (s < fs n h) = false := by simp; omega
    have c7 : decide (fs n h + hf n - 1 < s) = false := by simp; omega
    have c8 : decide (s < lg n h p) = false := by simp; omega
    have c9 : decide (s < lg n h p + sc t) = false := by simp; omega
    have b0 := hf_bd n
    have b1 := fs_bd n h
    have b2 := sc_bd t ht1
    have b3 := lg_bd n h p hp1
    go_enter Try.func29, Try.ntmps29
    go_wp2_with fail
    refine (log_any n h p _ hn0 hn1 hp0 hp1).mono ?_
    rintro e w' ⟨rfl, rfl⟩
    go_wp2_with fail
    refine (check_any n _ hn0 hn1).mono ?_
    rintro e w' ⟨rfl, rfl⟩
    rw [K.out]
    go_wp2_with fail
    refine (first_any n h _ hn0 hn1).mono ?_
    rintro e w' ⟨rfl, rfl⟩
    go_wp2_with fail
    refine (last_any n h _ hn0 hn1).mono ?_
    rintro e w' ⟨rfl, rfl⟩
    go_wp2_with fail
    refine (sectors_any t _ ht0 ht1).mono ?_
    rintro e w' ⟨rfl, rfl⟩
    go_wp2_with fail
    refine (last_any n h _ hn0 hn1).mono ?_
    rintro e w' ⟨rfl, rfl⟩
    go_wp2
    go_ret
    exact ⟨ret_i HH.out.symm, (Below.refl _ _).alloc (Nat.le_refl _) _⟩
  have HH := Lib.hid (show ofv n h p t r s = 4 by unfold ofv; rw [if_neg (by omega), if_neg (by omega), if_neg (by omega), if_neg (by omega), if_neg (by omega), if_neg (by omega)])
  have c3 : decide (s < 0) = false := by simp; omega
  have c4 : decide (n ≤ s) = false := by simp; omega
  have c5 : decide (s < 2) = false := by simp; omega
  have c6 : decide (s < fs n h) = false := by simp; omega
  have c7 : decide (fs n h + hf n - 1 < s) = false := by simp; omega
  have c8 : decide (s < lg n h p) = false := by simp; omega
  have c9 : decide (s < lg n h p + sc t) = false := by simp; omega
  have d9 : decide (fs n h + hf n - 1 - s < r) = false := by simp; omega
  have b0 := hf_bd n
  have b1 := fs_bd n h
  have b2 := sc_bd t ht1
  have b3 := lg_bd n h p hp1
  go_enter Try.func29, Try.ntmps29
  go_wp2_with fail
  refine (log_any n h p _ hn0 hn1 hp0 hp1).mono ?_
  rintro e w' ⟨rfl, rfl⟩
  go_wp2_with fail
  refine (check_any n _ hn0 hn1).mono ?_
  rintro e w' ⟨rfl, rfl⟩
  rw [K.out]
  go_wp2_with fail
  refine (first_any n h _ hn0 hn1).mono ?_
  rintro e w' ⟨rfl, rfl⟩
  go_wp2_with fail
  refine (last_any n h _ hn0 hn1).mono ?_
  rintro e w' ⟨rfl, rfl⟩
  go_wp2_with fail
  refine (sectors_any t _ ht0 ht1).mono ?_
  rintro e w' ⟨rfl, rfl⟩
  go_wp2_with fail
  refine (last_any n h _ hn0 hn1).mono ?_
  rintro e w' ⟨rfl, rfl⟩
  go_wp2
  go_ret
  exact ⟨ret_i HH.out.symm, (Below.refl _ _).alloc (Nat.le_refl _) _⟩

set_option maxHeartbeats 1600000 in
theorem refOf_any (n a h p num t r s : Int) (w : World) (hn0 : -9223372036854775808 ≤ n) (hn1 : n ≤ 9223372036854775807) (hp0 : -9223372036854775808 ≤ p) (hp1 : p ≤ 9223372036854775807) (ht0 : -9223372036854775808 ≤ t) (ht1 : t ≤ 9223372036854775807) (hr0 : -9223372036854775808 ≤ r) (hr1 : r ≤ 9223372036854775807) (hs0 : -9223372036854775808 ≤ s) (hs1 : s ≤ 9223372036854775807) :
    Calls Try.prog 30 #[.int .i64 n, .agg #[.int .i64 a, .int .i64 h, .int .i64 p, .int .i64 num], .int .i64 t, .int .i64 r, .int .i64 s] w fun e w' => e = .returned (.int .i64 (ofv n h p t r s)) ∧ Below w.heap.size w w' := by
  by_cases a1 : n < 16
  · have HH := Lib.hid (show ofv n h p t r s = 6 from if_pos (by omega))
    have b0 := hf_bd n
    have b1 := fs_bd n h
    have b2 := sc_bd t ht1
    have b3 := lg_bd n h p hp1
    go_enter Try.func30, Try.ntmps30
    go_wp2
    go_ret
    exact ⟨ret_i HH.out.symm, (Below.refl _ _).alloc (Nat.le_refl _) _⟩
  by_cases a2 : 4096 < n
  · have HH := Lib.hid (show ofv n h p t r s = 6 from if_pos (by omega))
    have b0 := hf_bd n
    have b1 := fs_bd n h
    have b2 := sc_bd t ht1
    have b3 := lg_bd n h p hp1
    go_enter Try.func30, Try.ntmps30
    go_wp2
    go_ret
    exact ⟨ret_i HH.out.symm, (Below.refl _ _).alloc (Nat.le_refl _) _⟩
  have n1 : 16 ≤ n := by omega
  have n2 : n ≤ 4096 := by omega
  clear a1
  clear a2
  by_cases a3 : s < 0
  · have HH := Lib.hid (show ofv n h p t r s = 6 from if_pos (by omega))
    have b0 := hf_bd n
    have b1 := fs_bd n h
    have b2 := sc_bd t ht1
    have b3 := lg_bd n h p hp1
    go_enter Try.func30, Try.ntmps30
    go_wp2
    go_ret
    exact ⟨ret_i HH.out.symm, (Below.refl _ _).alloc (Nat.le_refl _) _⟩
  by_cases a4 : n ≤ s
  · have HH := Lib.hid (show ofv n h p t r s = 6 from if_pos (by omega))
    have c3 : decide (s < 0) = false := by simp; omega
    have b0 := hf_bd n
    have b1 := fs_bd n h
    have b2 := sc_bd t ht1
    have b3 := lg_bd n h p hp1
    go_enter Try.func30, Try.ntmps30
    go_wp2
    go_ret
    exact ⟨ret_i HH.out.symm, (Below.refl _ _).alloc (Nat.le_refl _) _⟩
  by_cases a5 : s < 2
  · have HH := Lib.hid (show ofv n h p t r s = 0 by unfold ofv; rw [if_neg (by omega), if_pos (by omega)])
    have c3 : decide (s < 0) = false := by simp; omega
    have c4 : decide (n ≤ s) = false := by simp; omega
    have b0 := hf_bd n
    have b1 := fs_bd n h
    have b2 := sc_bd t ht1
    have b3 := lg_bd n h p hp1
    go_enter Try.func30, Try.ntmps30
    go_wp2
    go_ret
    exact ⟨ret_i HH.out.symm, (Below.refl _ _).alloc (Nat.le_refl _) _⟩
  by_cases a6 : s < fs n h
  · have HH := Lib.hid (show ofv n h p t r s = 5 by unfold ofv; rw [if_neg (by omega), if_neg (by omega), if_pos (by omega)])
    have c3 : decide (s < 0) = false := by simp; omega
    have c4 : decide (n ≤ s) = false := by simp; omega
    have c5 : decide (s < 2) = false := by simp; omega
    have b0 := hf_bd n
    have b1 := fs_bd n h
    have b2 := sc_bd t ht1
    have b3 := lg_bd n h p hp1
    go_enter Try.func30, Try.ntmps30
    go_wp2_with fail
    refine (refFirst_any n h _ hn0 hn1).mono ?_
    rintro e w' ⟨rfl, rfl⟩
    go_wp2_with fail
    refine (refHalf_any n _ hn0 hn1).mono ?_
    rintro e w' ⟨rfl, rfl⟩
    go_wp2
    go_ret
    exact ⟨ret_i HH.out.symm, (Below.refl _ _).alloc (Nat.le_refl _) _⟩
  by_cases a7 : fs n h + hf n ≤ s
  · have HH := Lib.hid (show ofv n h p t r s = 5 by unfold ofv; rw [if_neg (by omega), if_neg (by omega), if_pos (by omega)])
    have c3 : decide (s < 0) = false := by simp; omega
    have c4 : decide (n ≤ s) = false := by simp; omega
    have c5 : decide (s < 2) = false := by simp; omega
    have c6 : decide (s < fs n h) = false := by simp; omega
    have b0 := hf_bd n
    have b1 := fs_bd n h
    have b2 := sc_bd t ht1
    have b3 := lg_bd n h p hp1
    go_enter Try.func30, Try.ntmps30
    go_wp2_with fail
    refine (refFirst_any n h _ hn0 hn1).mono ?_
    rintro e w' ⟨rfl, rfl⟩
    go_wp2_with fail
    refine (refHalf_any n _ hn0 hn1).mono ?_
    rintro e w' ⟨rfl, rfl⟩
    go_wp2
    go_ret
    exact ⟨ret_i HH.out.symm, (Below.refl _ _).alloc (Nat.le_refl _) _⟩
  have G := Lib.hid (sub_lg n h p s (by omega))
  by_cases a8 : s - fs n h < sc p
  · have HH := Lib.hid (show ofv n h p t r s = 1 by unfold ofv; rw [if_neg (by omega), if_neg (by omega), if_neg (by omega), if_pos (G.out.2 a8)])
    have c3 : decide (s < 0) = false := by simp; omega
    have c4 : decide (n ≤ s) = false := by simp; omega
    have c5 : decide (s < 2) = false := by simp; omega
    have c6 : decide (s < fs n h) = false := by simp; omega
    have c7 : decide (fs n h + hf n ≤ s) = false := by simp; omega
    have b0 := hf_bd n
    have b1 := fs_bd n h
    have b2 := sc_bd t ht1
    have b3 := lg_bd n h p hp1
    go_enter Try.func30, Try.ntmps30
    go_wp2_with fail
    refine (refFirst_any n h _ hn0 hn1).mono ?_
    rintro e w' ⟨rfl, rfl⟩
    go_wp2_with fail
    refine (refHalf_any n _ hn0 hn1).mono ?_
    rintro e w' ⟨rfl, rfl⟩
    go_wp2_with fail
    refine (refSectors_any p _ hp0 hp1).mono ?_
    rintro e w' ⟨rfl, rfl⟩
    go_wp2
    go_ret
    exact ⟨ret_i HH.out.symm, (Below.refl _ _).alloc (Nat.le_refl _) _⟩
  have g8 : ¬ s < lg n h p := fun g => a8 (G.out.1 g)
  by_cases a9 : s - lg n h p < sc t
  · have HH := Lib.hid (show ofv n h p t r s = 2 by unfold ofv; rw [if_neg (by omega), if_neg (by omega), if_neg (by omega), if_neg (by omega), if_pos (by omega)])
    have c3 : decide (s < 0) = false := by simp; omega
    have c4 : decide (n ≤ s) = false := by simp; omega
    have c5 : decide (s < 2) = false := by simp; omega
    have c6 : decide (s < fs n h) = false := by simp; omega
    have c7 : decide (fs n h + hf n ≤ s) = false := by simp; omega
    have c8 : decide (s - fs n h < sc p) = false := by simp; omega
    have b0 := hf_bd n
    have b1 := fs_bd n h
    have b2 := sc_bd t ht1
    have b3 := lg_bd n h p hp1
    go_enter Try.func30, Try.ntmps30
    go_wp2_with fail
    refine (refFirst_any n h _ hn0 hn1).mono ?_
    rintro e w' ⟨rfl, rfl⟩
    go_wp2_with fail
    refine (refHalf_any n _ hn0 hn1).mono ?_
    rintro e w' ⟨rfl, rfl⟩
    go_wp2_with fail
    refine (refSectors_any p _ hp0 hp1).mono ?_
    rintro e w' ⟨rfl, rfl⟩
    go_wp2_with fail
    refine (refLog_any n h p _ hn0 hn1 hp0 hp1).mono ?_
    rintro e w' ⟨rfl, rfl⟩
    go_wp2_with fail
    refine (refSectors_any t _ ht0 ht1).mono ?_
    rintro e w' ⟨rfl, rfl⟩
    go_wp2
    go_ret
    exact ⟨ret_i HH.out.symm, (Below.refl _ _).alloc (Nat.le_refl _) _⟩
  by_cases b9 : fs n h + hf n - 1 - s < r
  · have HH := Lib.hid (show ofv n h p t r s = 3 by unfold ofv; rw [if_neg (by omega), if_neg (by omega), if_neg (by omega), if_neg (by omega), if_neg (by omega), if_pos (by omega)])
    have c3 : decide (s < 0) = false := by simp; omega
    have c4 : decide (n ≤ s) = false := by simp; omega
    have c5 : decide (s < 2) = false := by simp; omega
    have c6 : decide (s < fs n h) = false := by simp; omega
    have c7 : decide (fs n h + hf n ≤ s) = false := by simp; omega
    have c8 : decide (s - fs n h < sc p) = false := by simp; omega
    have c9 : decide (s - lg n h p < sc t) = false := by simp; omega
    have b0 := hf_bd n
    have b1 := fs_bd n h
    have b2 := sc_bd t ht1
    have b3 := lg_bd n h p hp1
    go_enter Try.func30, Try.ntmps30
    go_wp2_with fail
    refine (refFirst_any n h _ hn0 hn1).mono ?_
    rintro e w' ⟨rfl, rfl⟩
    go_wp2_with fail
    refine (refHalf_any n _ hn0 hn1).mono ?_
    rintro e w' ⟨rfl, rfl⟩
    go_wp2_with fail
    refine (refSectors_any p _ hp0 hp1).mono ?_
    rintro e w' ⟨rfl, rfl⟩
    go_wp2_with fail
    refine (refLog_any n h p _ hn0 hn1 hp0 hp1).mono ?_
    rintro e w' ⟨rfl, rfl⟩
    go_wp2_with fail
    refine (refSectors_any t _ ht0 ht1).mono ?_
    rintro e w' ⟨rfl, rfl⟩
    go_wp2
    go_ret
    exact ⟨ret_i HH.out.symm, (Below.refl _ _).alloc (Nat.le_refl _) _⟩
  have HH := Lib.hid (show ofv n h p t r s = 4 by unfold ofv; rw [if_neg (by omega), if_neg (by omega), if_neg (by omega), if_neg (by omega), if_neg (by omega), if_neg (by omega)])
  have c3 : decide (s < 0) = false := by simp; omega
  have c4 : decide (n ≤ s) = false := by simp; omega
  have c5 : decide (s < 2) = false := by simp; omega
  have c6 : decide (s < fs n h) = false := by simp; omega
  have c7 : decide (fs n h + hf n ≤ s) = false := by simp; omega
  have c8 : decide (s - fs n h < sc p) = false := by simp; omega
  have c9 : decide (s - lg n h p < sc t) = false := by simp; omega
  have d9 : decide (fs n h + hf n - 1 - s < r) = false := by simp; omega
  have b0 := hf_bd n
  have b1 := fs_bd n h
  have b2 := sc_bd t ht1
  have b3 := lg_bd n h p hp1
  go_enter Try.func30, Try.ntmps30
  go_wp2_with fail
  refine (refFirst_any n h _ hn0 hn1).mono ?_
  rintro e w' ⟨rfl, rfl⟩
  go_wp2_with fail
  refine (refHalf_any n _ hn0 hn1).mono ?_
  rintro e w' ⟨rfl, rfl⟩
  go_wp2_with fail
  refine (refSectors_any p _ hp0 hp1).mono ?_
  rintro e w' ⟨rfl, rfl⟩
  go_wp2_with fail
  refine (refLog_any n h p _ hn0 hn1 hp0 hp1).mono ?_
  rintro e w' ⟨rfl, rfl⟩
  go_wp2_with fail
  refine (refSectors_any t _ ht0 ht1).mono ?_
  rintro e w' ⟨rfl, rfl⟩
  go_wp2
  go_ret
  exact ⟨ret_i HH.out.symm, (Below.refl _ _).alloc (Nat.le_refl _) _⟩
end Go.Proofs.Ytgbagifmelkkhaa
