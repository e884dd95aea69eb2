/- AreaTells: for all numbers of 64 bits, where all stands is as the document says. No condition. -/
import Derived.Test.YtgbagifmelkkhaaRows
import Derived.Test.YtgbagifmelkkhaaRw
namespace Go.Proofs.Ytgbagifmelkkhaa.LAreaTells
open Go.RowKit Ar

set_option maxHeartbeats 1600000 in
theorem lowOut (n h p s : Int) (w : World) (hn0 : -9223372036854775808 ≤ n) (hn1 : n ≤ 9223372036854775807) (hp0 : -9223372036854775808 ≤ p) (hp1 : p ≤ 9223372036854775807) (hs0 : -9223372036854775808 ≤ s) (hs1 : s ≤ 9223372036854775807) (g : n < 16 ∨ 4096 < n) (a : s < 0) :
    Calls Try.prog 3 #[.int .i64 n, .int .i64 h, .int .i64 p, .int .i64 s] w fun e w' => e = .returned (.bool true) ∧ w = w' := by
  have b1 := hf_bd n
  have b2 := fs_bd n h
  have b3 := sc_bd p hp1
  have b4 := lg_bd n h p hp1
  have HP := Lib.hid (show pl n h s = _ from if_pos (Or.inl a))
  have K := Lib.hid (ck_out n g)
  have q0 : decide (0 < hf n) = false := by have := hf_out n g; simp; omega
  have q1 : (hf n == hf n) = true := by simp
  have q2 : (fs n h == fs n h) = true := by simp
  have q3 : (sc p == sc p) = true := by simp
  have q4 : (lg n h p == lg n h p) = true := by simp
  clear g
  go_enter Try.func3, Try.ntmps3
  go_wp2_with fail
  refine (place_any n h s _ hn0 hn1 hs0 hs1).mono ?_
  rintro e w' ⟨rfl, rfl⟩
  rw [HP.out]
  go_wp2_with fail
  refine (check_any n _ hn0 hn1).mono ?_
  rintro e w' ⟨rfl, rfl⟩
  rw [K.out]
  go_wp2_with fail
  refine (refHalf_any n _ hn0 hn1).mono ?_
  rintro e w' ⟨rfl, rfl⟩
  go_wp2_with fail
  refine (half_any n _ hn0 hn1).mono ?_
  rintro e w' ⟨rfl, rfl⟩
  go_wp2_with fail
  refine (refHalf_any n _ hn0 hn1).mono ?_
  rintro e w' ⟨rfl, rfl⟩
  go_wp2_with fail
  refine (first_any n h _ hn0 hn1).mono ?_
  rintro e w' ⟨rfl, rfl⟩
  go_wp2_with fail
  refine (refFirst_any n h _ hn0 hn1).mono ?_
  rintro e w' ⟨rfl, rfl⟩
  go_wp2_with fail
  refine (sectors_any p _ hp0 hp1).mono ?_
  rintro e w' ⟨rfl, rfl⟩
  go_wp2_with fail
  refine (refSectors_any p _ hp0 hp1).mono ?_
  rintro e w' ⟨rfl, rfl⟩
  go_wp2_with fail
  refine (log_any n h p _ hn0 hn1 hp0 hp1).mono ?_
  rintro e w' ⟨rfl, rfl⟩
  go_wp2_with fail
  refine (refLog_any n h p _ hn0 hn1 hp0 hp1).mono ?_
  rintro e w' ⟨rfl, rfl⟩
  go_wp2_with fail
  refine (areaAwake_any _).mono ?_
  rintro e w' ⟨rfl, rfl⟩
  go_wp2
  go_ret
  exact ⟨rfl, rfl⟩

set_option maxHeartbeats 1600000 in
theorem lowIn (n h p s : Int) (w : World) (hn0 : -9223372036854775808 ≤ n) (hn1 : n ≤ 9223372036854775807) (hp0 : -9223372036854775808 ≤ p) (hp1 : p ≤ 9223372036854775807) (hs0 : -9223372036854775808 ≤ s) (hs1 : s ≤ 9223372036854775807) (g : 16 ≤ n ∧ n ≤ 4096) (a : s < 0) :
    Calls Try.prog 3 #[.int .i64 n, .int .i64 h, .int .i64 p, .int .i64 s] w fun e w' => e = .returned (.bool true) ∧ w = w' := by
  have b1 := hf_bd n
  have b2 := fs_bd n h
  have b3 := sc_bd p hp1
  have b4 := lg_bd n h p hp1
  have HP := Lib.hid (show pl n h s = _ from if_pos (Or.inl a))
  have K := Lib.hid (ck_in n g.1 g.2)
  have q0 : decide (0 < hf n) = true := by have := hf_in n g.1 g.2; simp; omega
  have q1 : (hf n == hf n) = true := by simp
  have q2 : (fs n h == fs n h) = true := by simp
  have q3 : (sc p == sc p) = true := by simp
  have q4 : (lg n h p == lg n h p) = true := by simp
  clear g
  go_enter Try.func3, Try.ntmps3
  go_wp2_with fail
  refine (place_any n h s _ hn0 hn1 hs0 hs1).mono ?_
  rintro e w' ⟨rfl, rfl⟩
  rw [HP.out]
  go_wp2_with fail
  refine (check_any n _ hn0 hn1).mono ?_
  rintro e w' ⟨rfl, rfl⟩
  rw [K.out]
  go_wp2_with fail
  refine (refHalf_any n _ hn0 hn1).mono ?_
  rintro e w' ⟨rfl, rfl⟩
  go_wp2_with fail
  refine (half_any n _ hn0 hn1).mono ?_
  rintro e w' ⟨rfl, rfl⟩
  go_wp2_with fail
  refine (refHalf_any n _ hn0 hn1).mono ?_
  rintro e w' ⟨rfl, rfl⟩
  go_wp2_with fail
  refine (first_any n h _ hn0 hn1).mono ?_
  rintro e w' ⟨rfl, rfl⟩
  go_wp2_with fail
  refine (refFirst_any n h _ hn0 hn1).mono ?_
  rintro e w' ⟨rfl, rfl⟩
  go_wp2_with fail
  refine (sectors_any p _ hp0 hp1).mono ?_
  rintro e w' ⟨rfl, rfl⟩
  go_wp2_with fail
  refine (refSectors_any p _ hp0 hp1).mono ?_
  rintro e w' ⟨rfl, rfl⟩
  go_wp2_with fail
  refine (log_any n h p _ hn0 hn1 hp0 hp1).mono ?_
  rintro e w' ⟨rfl, rfl⟩
  go_wp2_with fail
  refine (refLog_any n h p _ hn0 hn1 hp0 hp1).mono ?_
  rintro e w' ⟨rfl, rfl⟩
  go_wp2_with fail
  refine (areaAwake_any _).mono ?_
  rintro e w' ⟨rfl, rfl⟩
  go_wp2
  go_ret
  exact ⟨rfl, rfl⟩

set_option maxHeartbeats 1600000 in
theorem highOut (n h p s : Int) (w : World) (hn0 : -9223372036854775808 ≤ n) (hn1 : n ≤ 9223372036854775807) (hp0 : -9223372036854775808 ≤ p) (hp1 : p ≤ 9223372036854775807) (hs0 : -9223372036854775808 ≤ s) (hs1 : s ≤ 9223372036854775807) (g : n < 16 ∨ 4096 < n) (a : ¬ s < 0) (c : hf n ≤ s) :
    Calls Try.prog 3 #[.int .i64 n, .int .i64 h, .int .i64 p, .int .i64 s] w fun e w' => e = .returned (.bool true) ∧ w = w' := by
  have b1 := hf_bd n
  have b2 := fs_bd n h
  have b3 := sc_bd p hp1
  have b4 := lg_bd n h p hp1
  have HP := Lib.hid (show pl n h s = _ from if_pos (Or.inr c))
  have K := Lib.hid (ck_out n g)
  have q0 : decide (0 < hf n) = false := by have := hf_out n g; simp; omega
  have q1 : (hf n == hf n) = true := by simp
  have q2 : (fs n h == fs n h) = true := by simp
  have q3 : (sc p == sc p) = true := by simp
  have q4 : (lg n h p == lg n h p) = true := by simp
  clear g
  go_enter Try.func3, Try.ntmps3
  go_wp2_with fail
  refine (place_any n h s _ hn0 hn1 hs0 hs1).mono ?_
  rintro e w' ⟨rfl, rfl⟩
  rw [HP.out]
  go_wp2_with fail
  refine (refHalf_any n _ hn0 hn1).mono ?_
  rintro e w' ⟨rfl, rfl⟩
  go_wp2_with fail
  refine (check_any n _ hn0 hn1).mono ?_
  rintro e w' ⟨rfl, rfl⟩
  rw [K.out]
  go_wp2_with fail
  refine (refHalf_any n _ hn0 hn1).mono ?_
  rintro e w' ⟨rfl, rfl⟩
  go_wp2_with fail
  refine (half_any n _ hn0 hn1).mono ?_
  rintro e w' ⟨rfl, rfl⟩
  go_wp2_with fail
  refine (refHalf_any n _ hn0 hn1).mono ?_
  rintro e w' ⟨rfl, rfl⟩
  go_wp2_with fail
  refine (first_any n h _ hn0 hn1).mono ?_
  rintro e w' ⟨rfl, rfl⟩
  go_wp2_with fail
  refine (refFirst_any n h _ hn0 hn1).mono ?_
  rintro e w' ⟨rfl, rfl⟩
  go_wp2_with fail
  refine (sectors_any p _ hp0 hp1).mono ?_
  rintro e w' ⟨rfl, rfl⟩
  go_wp2_with fail
  refine (refSectors_any p _ hp0 hp1).mono ?_
  rintro e w' ⟨rfl, rfl⟩
  go_wp2_with fail
  refine (log_any n h p _ hn0 hn1 hp0 hp1).mono ?_
  rintro e w' ⟨rfl, rfl⟩
  go_wp2_with fail
  refine (refLog_any n h p _ hn0 hn1 hp0 hp1).mono ?_
  rintro e w' ⟨rfl, rfl⟩
  go_wp2_with fail
  refine (areaAwake_any _).mono ?_
  rintro e w' ⟨rfl, rfl⟩
  go_wp2
  go_ret
  exact ⟨rfl, rfl⟩

set_option maxHeartbeats 1600000 in
theorem highIn (n h p s : Int) (w : World) (hn0 : -9223372036854775808 ≤ n) (hn1 : n ≤ 9223372036854775807) (hp0 : -9223372036854775808 ≤ p) (hp1 : p ≤ 9223372036854775807) (hs0 : -9223372036854775808 ≤ s) (hs1 : s ≤ 9223372036854775807) (g : 16 ≤ n ∧ n ≤ 4096) (a : ¬ s < 0) (c : hf n ≤ s) :
    Calls Try.prog 3 #[.int .i64 n, .int .i64 h, .int .i64 p, .int .i64 s] w fun e w' => e = .returned (.bool true) ∧ w = w' := by
  have b1 := hf_bd n
  have b2 := fs_bd n h
  have b3 := sc_bd p hp1
  have b4 := lg_bd n h p hp1
  have HP := Lib.hid (show pl n h s = _ from if_pos (Or.inr c))
  have K := Lib.hid (ck_in n g.1 g.2)
  have q0 : decide (0 < hf n) = true := by have := hf_in n g.1 g.2; simp; omega
  have q1 : (hf n == hf n) = true := by simp
  have q2 : (fs n h == fs n h) = true := by simp
  have q3 : (sc p == sc p) = true := by simp
  have q4 : (lg n h p == lg n h p) = true := by simp
  clear g
  go_enter Try.func3, Try.ntmps3
  go_wp2_with fail
  refine (place_any n h s _ hn0 hn1 hs0 hs1).mono ?_
  rintro e w' ⟨rfl, rfl⟩
  rw [HP.out]
  go_wp2_with fail
  refine (refHalf_any n _ hn0 hn1).mono ?_
  rintro e w' ⟨rfl, rfl⟩
  go_wp2_with fail
  refine (check_any n _ hn0 hn1).mono ?_
  rintro e w' ⟨rfl, rfl⟩
  rw [K.out]
  go_wp2_with fail
  refine (refHalf_any n _ hn0 hn1).mono ?_
  rintro e w' ⟨rfl, rfl⟩
  go_wp2_with fail
  refine (half_any n _ hn0 hn1).mono ?_
  rintro e w' ⟨rfl, rfl⟩
  go_wp2_with fail
  refine (refHalf_any n _ hn0 hn1).mono ?_
  rintro e w' ⟨rfl, rfl⟩
  go_wp2_with fail
  refine (first_any n h _ hn0 hn1).mono ?_
  rintro e w' ⟨rfl, rfl⟩
  go_wp2_with fail
  refine (refFirst_any n h _ hn0 hn1).mono ?_
  rintro e w' ⟨rfl, rfl⟩
  go_wp2_with fail
  refine (sectors_any p _ hp0 hp1).mono ?_
  rintro e w' ⟨rfl, rfl⟩
  go_wp2_with fail
  refine (refSectors_any p _ hp0 hp1).mono ?_
  rintro e w' ⟨rfl, rfl⟩
  go_wp2_with fail
  refine (log_any n h p _ hn0 hn1 hp0 hp1).mono ?_
  rintro e w' ⟨rfl, rfl⟩
  go_wp2_with fail
  refine (refLog_any n h p _ hn0 hn1 hp0 hp1).mono ?_
  rintro e w' ⟨rfl, rfl⟩
  go_wp2_with fail
  refine (areaAwake_any _).mono ?_
  rintro e w' ⟨rfl, rfl⟩
  go_wp2
  go_ret
  exact ⟨rfl, rfl⟩

set_option maxHeartbeats 1600000 in
theorem midOut (n h p s : Int) (w : World) (hn0 : -9223372036854775808 ≤ n) (hn1 : n ≤ 9223372036854775807) (hp0 : -9223372036854775808 ≤ p) (hp1 : p ≤ 9223372036854775807) (hs0 : -9223372036854775808 ≤ s) (hs1 : s ≤ 9223372036854775807) (g : n < 16 ∨ 4096 < n) (a : ¬ s < 0) (c : ¬ hf n ≤ s) :
    Calls Try.prog 3 #[.int .i64 n, .int .i64 h, .int .i64 p, .int .i64 s] w fun e w' => e = .returned (.bool true) ∧ w = w' := by
  have b1 := hf_bd n
  have b2 := fs_bd n h
  have b3 := sc_bd p hp1
  have b4 := lg_bd n h p hp1
  have HP := Lib.hid (show pl n h s = _ from if_neg (by omega))
  have K := Lib.hid (ck_out n g)
  have q0 : decide (0 < hf n) = false := by have := hf_out n g; simp; omega
  have c' : decide (hf n ≤ s) = false := by simpa using c
  have c2 : (fs n h + hf n - 1 - s != fs n h + hf n - 1 - s) = false := by simp
  have q1 : (hf n == hf n) = true := by simp
  have q2 : (fs n h == fs n h) = true := by simp
  have q3 : (sc p == sc p) = true := by simp
  have q4 : (lg n h p == lg n h p) = true := by simp
  clear g
  go_enter Try.func3, Try.ntmps3
  go_wp2_with fail
  refine (place_any n h s _ hn0 hn1 hs0 hs1).mono ?_
  rintro e w' ⟨rfl, rfl⟩
  rw [HP.out]
  go_wp2_with fail
  refine (refHalf_any n _ hn0 hn1).mono ?_
  rintro e w' ⟨rfl, rfl⟩
  go_wp2_with fail
  refine (refFirst_any n h _ hn0 hn1).mono ?_
  rintro e w' ⟨rfl, rfl⟩
  go_wp2_with fail
  refine (refHalf_any n _ hn0 hn1).mono ?_
  rintro e w' ⟨rfl, rfl⟩
  go_wp2_with fail
  refine (check_any n _ hn0 hn1).mono ?_
  rintro e w' ⟨rfl, rfl⟩
  rw [K.out]
  go_wp2_with fail
  refine (refHalf_any n _ hn0 hn1).mono ?_
  rintro e w' ⟨rfl, rfl⟩
  go_wp2_with fail
  refine (half_any n _ hn0 hn1).mono ?_
  rintro e w' ⟨rfl, rfl⟩
  go_wp2_with fail
  refine (refHalf_any n _ hn0 hn1).mono ?_
  rintro e w' ⟨rfl, rfl⟩
  go_wp2_with fail
  refine (first_any n h _ hn0 hn1).mono ?_
  rintro e w' ⟨rfl, rfl⟩
  go_wp2_with fail
  refine (refFirst_any n h _ hn0 hn1).mono ?_
  rintro e w' ⟨rfl, rfl⟩
  go_wp2_with fail
  refine (sectors_any p _ hp0 hp1).mono ?_
  rintro e w' ⟨rfl, rfl⟩
  go_wp2_with fail
  refine (refSectors_any p _ hp0 hp1).mono ?_
  rintro e w' ⟨rfl, rfl⟩
  go_wp2_with fail
  refine (log_any n h p _ hn0 hn1 hp0 hp1).mono ?_
  rintro e w' ⟨rfl, rfl⟩
  go_wp2_with fail
  refine (refLog_any n h p _ hn0 hn1 hp0 hp1).mono ?_
  rintro e w' ⟨rfl, rfl⟩
  go_wp2_with fail
  refine (areaAwake_any _).mono ?_
  rintro e w' ⟨rfl, rfl⟩
  go_wp2
  go_ret
  exact ⟨rfl, rfl⟩

set_option maxHeartbeats 1600000 in
theorem midIn (n h p s : Int) (w : World) (hn0 : -9223372036854775808 ≤ n) (hn1 : n ≤ 9223372036854775807) (hp0 : -9223372036854775808 ≤ p) (hp1 : p ≤ 9223372036854775807) (hs0 : -9223372036854775808 ≤ s) (hs1 : s ≤ 9223372036854775807) (g : 16 ≤ n ∧ n ≤ 4096) (a : ¬ s < 0) (c : ¬ hf n ≤ s) :
    Calls Try.prog 3 #[.int .i64 n, .int .i64 h, .int .i64 p, .int .i64 s] w fun e w' => e = .returned (.bool true) ∧ w = w' := by
  have b1 := hf_bd n
  have b2 := fs_bd n h
  have b3 := sc_bd p hp1
  have b4 := lg_bd n h p hp1
  have HP := Lib.hid (show pl n h s = _ from if_neg (by omega))
  have K := Lib.hid (ck_in n g.1 g.2)
  have q0 : decide (0 < hf n) = true := by have := hf_in n g.1 g.2; simp; omega
  have c' : decide (hf n ≤ s) = false := by simpa using c
  have c2 : (fs n h + hf n - 1 - s != fs n h + hf n - 1 - s) = false := by simp
  have q1 : (hf n == hf n) = true := by simp
  have q2 : (fs n h == fs n h) = true := by simp
  have q3 : (sc p == sc p) = true := by simp
  have q4 : (lg n h p == lg n h p) = true := by simp
  clear g
  go_enter Try.func3, Try.ntmps3
  go_wp2_with fail
  refine (place_any n h s _ hn0 hn1 hs0 hs1).mono ?_
  rintro e w' ⟨rfl, rfl⟩
  rw [HP.out]
  go_wp2_with fail
  refine (refHalf_any n _ hn0 hn1).mono ?_
  rintro e w' ⟨rfl, rfl⟩
  go_wp2_with fail
  refine (refFirst_any n h _ hn0 hn1).mono ?_
  rintro e w' ⟨rfl, rfl⟩
  go_wp2_with fail
  refine (refHalf_any n _ hn0 hn1).mono ?_
  rintro e w' ⟨rfl, rfl⟩
  go_wp2_with fail
  refine (check_any n _ hn0 hn1).mono ?_
  rintro e w' ⟨rfl, rfl⟩
  rw [K.out]
  go_wp2_with fail
  refine (refHalf_any n _ hn0 hn1).mono ?_
  rintro e w' ⟨rfl, rfl⟩
  go_wp2_with fail
  refine (half_any n _ hn0 hn1).mono ?_
  rintro e w' ⟨rfl, rfl⟩
  go_wp2_with fail
  refine (refHalf_any n _ hn0 hn1).mono ?_
  rintro e w' ⟨rfl, rfl⟩
  go_wp2_with fail
  refine (first_any n h _ hn0 hn1).mono ?_
  rintro e w' ⟨rfl, rfl⟩
  go_wp2_with fail
  refine (refFirst_any n h _ hn0 hn1).mono ?_
  rintro e w' ⟨rfl, rfl⟩
  go_wp2_with fail
  refine (sectors_any p _ hp0 hp1).mono ?_
  rintro e w' ⟨rfl, rfl⟩
  go_wp2_with fail
  refine (refSectors_any p _ hp0 hp1).mono ?_
  rintro e w' ⟨rfl, rfl⟩
  go_wp2_with fail
  refine (log_any n h p _ hn0 hn1 hp0 hp1).mono ?_
  rintro e w' ⟨rfl, rfl⟩
  go_wp2_with fail
  refine (refLog_any n h p _ hn0 hn1 hp0 hp1).mono ?_
  rintro e w' ⟨rfl, rfl⟩
  go_wp2_with fail
  refine (areaAwake_any _).mono ?_
  rintro e w' ⟨rfl, rfl⟩
  go_wp2
  go_ret
  exact ⟨rfl, rfl⟩

theorem walk (n h p s : Int) (w : World) (hn0 : -9223372036854775808 ≤ n) (hn1 : n ≤ 9223372036854775807) (hp0 : -9223372036854775808 ≤ p) (hp1 : p ≤ 9223372036854775807) (hs0 : -9223372036854775808 ≤ s) (hs1 : s ≤ 9223372036854775807) :
    Calls Try.prog 3 #[.int .i64 n, .int .i64 h, .int .i64 p, .int .i64 s] w fun e w' => e = .returned (.bool true) ∧ w = w' := by
  by_cases g : n < 16 ∨ 4096 < n
  · by_cases a : s < 0
    · exact lowOut n h p s w hn0 hn1 hp0 hp1 hs0 hs1 g a
    · by_cases c : hf n ≤ s
      · exact highOut n h p s w hn0 hn1 hp0 hp1 hs0 hs1 g a c
      · exact midOut n h p s w hn0 hn1 hp0 hp1 hs0 hs1 g a c
  · have g' : 16 ≤ n ∧ n ≤ 4096 := by omega
    by_cases a : s < 0
    · exact lowIn n h p s w hn0 hn1 hp0 hp1 hs0 hs1 g' a
    · by_cases c : hf n ≤ s
      · exact highIn n h p s w hn0 hn1 hp0 hp1 hs0 hs1 g' a c
      · exact midIn n h p s w hn0 hn1 hp0 hp1 hs0 hs1 g' a c
end Go.Proofs.Ytgbagifmelkkhaa.LAreaTells
