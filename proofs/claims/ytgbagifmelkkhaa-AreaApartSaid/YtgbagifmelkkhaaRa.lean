/- Contracts of area and of the document's answers of layer 9 over this translation, for all numbers of 64 bits. -/
import Derived.Test.YtgbagifmelkkhaaProg
import Derived.Test.YtgbagifmelkkhaaRm
import Derived.WalkKit
import Derived.Lib.Hide
import Derived.WalkSpells
import Derived.WalkLawsBesides
namespace Go.Proofs.Ytgbagifmelkkhaa
open Go.RowKit Ar

theorem ret_i {a b : Int} (h : a = b) : Ending.returned (.int .i64 a) = .returned (.int .i64 b) := by rw [h]
theorem ret_b {a b : Bool} (h : a = b) : Ending.returned (.bool a) = .returned (.bool b) := by rw [h]

set_option maxHeartbeats 400000 in
theorem refHalf_any (n : Int) (w : World) (hn0 : -9223372036854775808 ≤ n) (hn1 : n ≤ 9223372036854775807) :
    Calls Try.prog 15 #[.int .i64 n] w fun e w' => e = .returned (.int .i64 (hf n)) ∧ w = w' := by
  by_cases a1 : n < 16
  · have H := Lib.hid (hf_out n (Or.inl a1))
    go_enter Try.func15, Try.ntmps15
    go_wp2
    go_ret
    exact ⟨ret_i H.out.symm, rfl⟩
  · by_cases a2 : 4096 < n
    · have H := Lib.hid (hf_out n (Or.inr a2))
      go_enter Try.func15, Try.ntmps15
      go_wp2
      go_ret
      exact ⟨ret_i H.out.symm, rfl⟩
    · have H := Lib.hid (hf_in n (by omega) (by omega))
      go_enter Try.func15, Try.ntmps15
      go_wp2
      go_ret
      exact ⟨ret_i H.out.symm, rfl⟩

/-- may a disk have so many sectors? -/
def ck (n : Int) : Int := if n < 16 ∨ 4096 < n then 2 else 0
theorem ck_out (n : Int) (h : n < 16 ∨ 4096 < n) : ck n = 2 := by unfold ck; rw [if_pos h]
theorem ck_in (n : Int) (h0 : 16 ≤ n) (h1 : n ≤ 4096) : ck n = 0 := by unfold ck; rw [if_neg (by omega)]

set_option maxHeartbeats 400000 in
theorem check_any (n : Int) (w : World) (hn0 : -9223372036854775808 ≤ n) (hn1 : n ≤ 9223372036854775807) :
    Calls Try.prog 17 #[.int .i64 n] w fun e w' => e = .returned (.int .i64 (ck n)) ∧ w = w' := by
  by_cases a1 : n < 16
  · have H := Lib.hid (ck_out n (Or.inl a1))
    go_enter Try.func17, Try.ntmps17
    go_wp2
    go_ret
    exact ⟨ret_i H.out.symm, rfl⟩
  · by_cases a2 : 4096 < n
    · have H := Lib.hid (ck_out n (Or.inr a2))
      go_enter Try.func17, Try.ntmps17
      go_wp2
      go_ret
      exact ⟨ret_i H.out.symm, rfl⟩
    · have H := Lib.hid (ck_in n (by omega) (by omega))
      go_enter Try.func17, Try.ntmps17
      go_wp2
      go_ret
      exact ⟨ret_i H.out.symm, rfl⟩

set_option maxHeartbeats 400000 in
theorem half_any (n : Int) (w : World) (hn0 : -9223372036854775808 ≤ n) (hn1 : n ≤ 9223372036854775807) :
    Calls Try.prog 18 #[.int .i64 n] w fun e w' => e = .returned (.int .i64 (hf n)) ∧ w = w' := by
  by_cases a : n < 16 ∨ 4096 < n
  · have H := Lib.hid (hf_out n a)
    have K := Lib.hid (ck_out n a)
    clear a
    go_enter Try.func18, Try.ntmps18
    go_wp2_with fail
    refine (check_any n _ hn0 hn1).mono ?_
    rintro e w' ⟨rfl, rfl⟩
    rw [K.out]
    go_wp2
    go_ret
    exact ⟨ret_i H.out.symm, rfl⟩
  · have a1 : 16 ≤ n := by omega
    have a2 : n ≤ 4096 := by omega
    have H := Lib.hid (hf_in n a1 a2)
    have K := Lib.hid (ck_in n a1 a2)
    clear a
    go_enter Try.func18, Try.ntmps18
    go_wp2_with fail
    refine (check_any n _ hn0 hn1).mono ?_
    rintro e w' ⟨rfl, rfl⟩
    rw [K.out]
    go_wp2
    go_ret
    exact ⟨ret_i H.out.symm, rfl⟩

theorem fs_onefirst (n h : Int) (e : h = 1) : fs n h = 2 + hf n := by unfold fs; rw [if_pos e]
theorem fs_twofirst (n h : Int) (e : ¬ h = 1) : fs n h = 2 := by unfold fs; rw [if_neg e]
set_option maxHeartbeats 400000 in
theorem first_any (n h : Int) (w : World) (hn0 : -9223372036854775808 ≤ n) (hn1 : n ≤ 9223372036854775807) :
    Calls Try.prog 19 #[.int .i64 n, .int .i64 h] w fun e w' => e = .returned (.int .i64 (fs n h)) ∧ w = w' := by
  have b := hf_bd n
  by_cases a : h = 1
  · have H := Lib.hid (fs_onefirst n h a)
    subst a
    go_enter Try.func19, Try.ntmps19
    go_wp2_with fail
    refine (half_any n _ hn0 hn1).mono ?_
    rintro e w' ⟨rfl, rfl⟩
    obtain ⟨b0, b1⟩ := b
    go_wp2
    go_ret
    exact ⟨ret_i H.out.symm, rfl⟩
  · have H := Lib.hid (fs_twofirst n h a)
    have a' : (h == 1) = false := by simpa using a
    go_enter Try.func19, Try.ntmps19
    go_wp2
    go_ret
    exact ⟨ret_i H.out.symm, rfl⟩

theorem fs_onerefFirst (n h : Int) (e : h = 1) : fs n h = 2 + hf n := by unfold fs; rw [if_pos e]
theorem fs_tworefFirst (n h : Int) (e : ¬ h = 1) : fs n h = 2 := by unfold fs; rw [if_neg e]
set_option maxHeartbeats 400000 in
theorem refFirst_any (n h : Int) (w : World) (hn0 : -9223372036854775808 ≤ n) (hn1 : n ≤ 9223372036854775807) :
    Calls Try.prog 16 #[.int .i64 n, .int .i64 h] w fun e w' => e = .returned (.int .i64 (fs n h)) ∧ w = w' := by
  have b := hf_bd n
  by_cases a : h = 1
  · have H := Lib.hid (fs_onerefFirst n h a)
    subst a
    go_enter Try.func16, Try.ntmps16
    go_wp2_with fail
    refine (refHalf_any n _ hn0 hn1).mono ?_
    rintro e w' ⟨rfl, rfl⟩
    obtain ⟨b0, b1⟩ := b
    go_wp2
    go_ret
    exact ⟨ret_i H.out.symm, rfl⟩
  · have H := Lib.hid (fs_tworefFirst n h a)
    have a' : (h == 1) = false := by simpa using a
    go_enter Try.func16, Try.ntmps16
    go_wp2
    go_ret
    exact ⟨ret_i H.out.symm, rfl⟩

set_option maxHeartbeats 400000 in
theorem sectors_any (b : Int) (w : World) (hb0 : -9223372036854775808 ≤ b) (hb1 : b ≤ 9223372036854775807) :
    Calls Try.prog 20 #[.int .i64 b] w fun e w' => e = .returned (.int .i64 (sc b)) ∧ w = w' := by
  by_cases a : b ≤ 0
  · have H := Lib.hid (sc_le b a)
    go_enter Try.func20, Try.ntmps20
    go_wp2
    go_ret
    exact ⟨ret_i H.out.symm, rfl⟩
  · have a1 : 0 < b := by omega
    have H := Lib.hid (sc_gt b a1)
    clear a
    have a2 : 1 ≤ b := a1
    have a3 : (b - 1) / 128 ≤ 72057594037927935 := by omega
    have a4 : 0 ≤ (b - 1) / 128 := by omega
    have a5 : decide (b ≤ 0) = false := by simp; omega
    go_enter Try.func20, Try.ntmps20
    go_wp2
    go_ret
    exact ⟨ret_i H.out.symm, rfl⟩

set_option maxHeartbeats 400000 in
theorem refSectors_any (b : Int) (w : World) (hb0 : -9223372036854775808 ≤ b) (hb1 : b ≤ 9223372036854775807) :
    Calls Try.prog 21 #[.int .i64 b] w fun e w' => e = .returned (.int .i64 (sc b)) ∧ w = w' := by
  by_cases a : b ≤ 0
  · have H := Lib.hid (sc_le b a)
    go_enter Try.func21, Try.ntmps21
    go_wp2
    go_ret
    exact ⟨ret_i H.out.symm, rfl⟩
  · have a1 : 0 < b := by omega
    have a3 : b / 128 ≤ 72057594037927935 := by omega
    have a4 : 0 ≤ b / 128 := by omega
    have a5 : decide (b ≤ 0) = false := by simp; omega
    by_cases h : 0 < b % 128
    · have H := Lib.hid (sc_ref1 b a1 h)
      clear a
      go_enter Try.func21, Try.ntmps21
      go_wp2
      go_ret
      exact ⟨ret_i H.out.symm, rfl⟩
    · have H := Lib.hid (sc_ref0 b a1 (by omega))
      have h2 : decide (0 < b % 128) = false := by simp; omega
      clear a
      go_enter Try.func21, Try.ntmps21
      go_wp2
      go_ret
      exact ⟨ret_i H.out.symm, rfl⟩
end Go.Proofs.Ytgbagifmelkkhaa
