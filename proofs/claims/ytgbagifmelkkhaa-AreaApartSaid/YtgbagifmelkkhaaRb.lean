/- Contracts of area.Log, last, free, Fits, Room, Place and of the document's answers beside them, for all numbers of 64 bits. -/
import Derived.Test.YtgbagifmelkkhaaRa
namespace Go.Proofs.Ytgbagifmelkkhaa
open Go.RowKit Ar

set_option maxHeartbeats 800000 in
theorem log_any (n h p : Int) (w : World) (hn0 : -9223372036854775808 ≤ n) (hn1 : n ≤ 9223372036854775807) (hp0 : -9223372036854775808 ≤ p) (hp1 : p ≤ 9223372036854775807) :
    Calls Try.prog 22 #[.int .i64 n, .int .i64 h, .int .i64 p] w fun e w' => e = .returned (.int .i64 (lg n h p)) ∧ w = w' := by
  have b1 := hf_bd n
  have b2 := sc_bd p hp1
  have b3 := fs_bd n h
  go_enter Try.func22, Try.ntmps22
  go_wp2_with fail
  refine (first_any n h _ hn0 hn1).mono ?_
  rintro e w' ⟨rfl, rfl⟩
  go_wp2_with fail
  refine (sectors_any p _ hp0 hp1).mono ?_
  rintro e w' ⟨rfl, rfl⟩
  go_wp2_with fail
  refine (half_any n _ hn0 hn1).mono ?_
  rintro e w' ⟨rfl, rfl⟩
  have H : lg n h p = fs n h + min (sc p) (hf n) := rfl
  have HH := Lib.hid H
  clear H
  generalize fs n h = x at *
  generalize sc p = y at *
  generalize hf n = z at *
  go_wp2
  all_goals go_ret
  all_goals exact ⟨ret_i (by rw [HH.out]; omega), rfl⟩

set_option maxHeartbeats 800000 in
theorem refLog_any (n h p : Int) (w : World) (hn0 : -9223372036854775808 ≤ n) (hn1 : n ≤ 9223372036854775807) (hp0 : -9223372036854775808 ≤ p) (hp1 : p ≤ 9223372036854775807) :
    Calls Try.prog 23 #[.int .i64 n, .int .i64 h, .int .i64 p] w fun e w' => e = .returned (.int .i64 (lg n h p)) ∧ w = w' := by
  have b1 := hf_bd n
  have b2 := sc_bd p hp1
  have b3 := fs_bd n h
  have HH := Lib.hid (show lg n h p = fs n h + min (sc p) (hf n) from rfl)
  by_cases a : hf n < sc p
  · go_enter Try.func23, Try.ntmps23
    go_wp2_with fail
    refine (refSectors_any p _ hp0 hp1).mono ?_
    rintro e w' ⟨rfl, rfl⟩
    go_wp2_with fail
    refine (refHalf_any n _ hn0 hn1).mono ?_
    rintro e w' ⟨rfl, rfl⟩
    go_wp2_with fail
    refine (refHalf_any n _ hn0 hn1).mono ?_
    rintro e w' ⟨rfl, rfl⟩
    go_wp2_with fail
    refine (refFirst_any n h _ hn0 hn1).mono ?_
    rintro e w' ⟨rfl, rfl⟩
    go_wp2
    go_ret
    exact ⟨ret_i (by rw [HH.out]; omega), rfl⟩
  · go_enter Try.func23, Try.ntmps23
    go_wp2_with fail
    refine (refSectors_any p _ hp0 hp1).mono ?_
    rintro e w' ⟨rfl, rfl⟩
    go_wp2_with fail
    refine (refHalf_any n _ hn0 hn1).mono ?_
    rintro e w' ⟨rfl, rfl⟩
    go_wp2_with fail
    refine (refFirst_any n h _ hn0 hn1).mono ?_
    rintro e w' ⟨rfl, rfl⟩
    go_wp2
    go_ret
    exact ⟨ret_i (by rw [HH.out]; omega), rfl⟩

set_option maxHeartbeats 800000 in
theorem last_any (n h : Int) (w : World) (hn0 : -9223372036854775808 ≤ n) (hn1 : n ≤ 9223372036854775807) :
    Calls Try.prog 71 #[.int .i64 n, .int .i64 h] w fun e w' => e = .returned (.int .i64 (fs n h + hf n - 1)) ∧ w = w' := by
  have b1 := hf_bd n
  have b3 := fs_bd n h
  go_enter Try.func71, Try.ntmps71
  go_wp2_with fail
  refine (first_any n h _ hn0 hn1).mono ?_
  rintro e w' ⟨rfl, rfl⟩
  go_wp2_with fail
  refine (half_any n _ hn0 hn1).mono ?_
  rintro e w' ⟨rfl, rfl⟩
  go_wp2
  go_ret
  exact ⟨rfl, rfl⟩

set_option maxHeartbeats 800000 in
theorem free_any (n p r : Int) (w : World) (hn0 : -9223372036854775808 ≤ n) (hn1 : n ≤ 9223372036854775807) (hp0 : -9223372036854775808 ≤ p) (hp1 : p ≤ 9223372036854775807) (hr0 : -9223372036854775808 ≤ r) (hr1 : r ≤ 9223372036854775807) :
    Calls Try.prog 72 #[.int .i64 n, .int .i64 p, .int .i64 r] w fun e w' => e = .returned (.int .i64 (fr n p r)) ∧ w = w' := by
  have b1 := hf_bd n
  have b2 := sc_bd p hp1
  have HH := Lib.hid (show fr n p r = hf n - min (sc p) (hf n) - min (max r 0) (hf n) - 1 from rfl)
  go_enter Try.func72, Try.ntmps72
  go_wp2_with fail
  refine (half_any n _ hn0 hn1).mono ?_
  rintro e w' ⟨rfl, rfl⟩
  go_wp2_with fail
  refine (sectors_any p _ hp0 hp1).mono ?_
  rintro e w' ⟨rfl, rfl⟩
  generalize sc p = y at *
  generalize hf n = z at *
  go_wp2
  all_goals go_ret
  all_goals exact ⟨ret_i (by rw [HH.out]; omega), rfl⟩

set_option maxHeartbeats 800000 in
theorem fits_any (n p t r : Int) (w : World) (hn0 : -9223372036854775808 ≤ n) (hn1 : n ≤ 9223372036854775807) (hp0 : -9223372036854775808 ≤ p) (hp1 : p ≤ 9223372036854775807) (ht0 : -9223372036854775808 ≤ t) (ht1 : t ≤ 9223372036854775807) (hr0 : -9223372036854775808 ≤ r) (hr1 : r ≤ 9223372036854775807) :
    Calls Try.prog 26 #[.int .i64 n, .int .i64 p, .int .i64 t, .int .i64 r] w fun e w' => e = .returned (.bool (ft n p t r)) ∧ w = w' := by
  have b1 := fr_bd n p r hp1
  have b2 := sc_bd t ht1
  have HH := Lib.hid (show ft n p t r = decide (sc t ≤ fr n p r) from rfl)
  go_enter Try.func26, Try.ntmps26
  go_wp2_with fail
  refine (sectors_any t _ ht0 ht1).mono ?_
  rintro e w' ⟨rfl, rfl⟩
  go_wp2_with fail
  refine (free_any n p r _ hn0 hn1 hp0 hp1 hr0 hr1).mono ?_
  rintro e w' ⟨rfl, rfl⟩
  go_wp2
  go_ret
  exact ⟨ret_b HH.out.symm, rfl⟩

set_option maxHeartbeats 800000 in
theorem room_any (n p r : Int) (w : World) (hn0 : -9223372036854775808 ≤ n) (hn1 : n ≤ 9223372036854775807) (hp0 : -9223372036854775808 ≤ p) (hp1 : p ≤ 9223372036854775807) (hr0 : -9223372036854775808 ≤ r) (hr1 : r ≤ 9223372036854775807) :
    Calls Try.prog 28 #[.int .i64 n, .int .i64 p, .int .i64 r] w fun e w' => e = .returned (.int .i64 (128 * max (fr n p r) 0)) ∧ w = w' := by
  have b1 := fr_bd n p r hp1
  go_enter Try.func28, Try.ntmps28
  go_wp2_with fail
  refine (free_any n p r _ hn0 hn1 hp0 hp1 hr0 hr1).mono ?_
  rintro e w' ⟨rfl, rfl⟩
  go_wp2
  all_goals go_ret
  all_goals exact ⟨ret_i (by omega), rfl⟩

set_option maxHeartbeats 800000 in
theorem refLeft_any (n p r : Int) (w : World) (hn0 : -9223372036854775808 ≤ n) (hn1 : n ≤ 9223372036854775807) (hp0 : -9223372036854775808 ≤ p) (hp1 : p ≤ 9223372036854775807) (hr0 : -9223372036854775808 ≤ r) (hr1 : r ≤ 9223372036854775807) :
    Calls Try.prog 25 #[.int .i64 n, .int .i64 p, .int .i64 r] w fun e w' => e = .returned (.int .i64 (lf n p r)) ∧ w = w' := by
  have b1 := hf_bd n
  have b2 := sc_bd p hp1
  have HH := Lib.hid (show lf n p r = if hf n - 1 < r ∨ hf n - 1 < sc p then -1 else if 0 < r then hf n - 1 - r - sc p else hf n - 1 - sc p from rfl)
  by_cases a : hf n - 1 < r
  · rw [if_pos (Or.inl a)] at HH
    go_enter Try.func25, Try.ntmps25
    go_wp2_with fail
    refine (refHalf_any n _ hn0 hn1).mono ?_
    rintro e w' ⟨rfl, rfl⟩
    generalize hf n = z at *
    go_wp2
    go_ret
    exact ⟨ret_i HH.out.symm, rfl⟩
  · have a' : decide (hf n - 1 < r) = false := by simpa using a
    by_cases c : hf n - 1 < sc p
    · rw [if_pos (Or.inr c)] at HH
      clear a
      go_enter Try.func25, Try.ntmps25
      go_wp2_with fail
      refine (refHalf_any n _ hn0 hn1).mono ?_
      rintro e w' ⟨rfl, rfl⟩
      go_wp2_with fail
      refine (refSectors_any p _ hp0 hp1).mono ?_
      rintro e w' ⟨rfl, rfl⟩
      go_wp2
      go_ret
      exact ⟨ret_i HH.out.symm, rfl⟩
    · have c' : decide (hf n - 1 < sc p) = false := by simpa using c
      rw [if_neg (by omega)] at HH
      by_cases d : 0 < r
      · rw [if_pos d] at HH
        go_enter Try.func25, Try.ntmps25
        go_wp2_with fail
        refine (refHalf_any n _ hn0 hn1).mono ?_
        rintro e w' ⟨rfl, rfl⟩
        go_wp2_with fail
        refine (refSectors_any p _ hp0 hp1).mono ?_
        rintro e w' ⟨rfl, rfl⟩
        go_wp2_with fail
        refine (refSectors_any p _ hp0 hp1).mono ?_
        rintro e w' ⟨rfl, rfl⟩
        go_wp2
        go_ret
        exact ⟨ret_i HH.out.symm, rfl⟩
      · rw [if_neg d] at HH
        go_enter Try.func25, Try.ntmps25
        go_wp2_with fail
        refine (refHalf_any n _ hn0 hn1).mono ?_
        rintro e w' ⟨rfl, rfl⟩
        go_wp2_with fail
        refine (refSectors_any p _ hp0 hp1).mono ?_
        rintro e w' ⟨rfl, rfl⟩
        go_wp2_with fail
        refine (refSectors_any p _ hp0 hp1).mono ?_
        rintro e w' ⟨rfl, rfl⟩
        go_wp2
        go_ret
        exact ⟨ret_i HH.out.symm, rfl⟩

theorem ft_lf (n p t r : Int) (hp1 : p ≤ 9223372036854775807) (ht1 : t ≤ 9223372036854775807) : ft n p t r = (decide (0 ≤ lf n p r) && decide (sc t ≤ lf n p r)) := by
  have := fr_lf n p r hp1
  have := sc_bd t ht1
  unfold ft
  rw [Bool.eq_iff_iff]; simp; omega

set_option maxHeartbeats 800000 in
theorem refFits_any (n p t r : Int) (w : World) (hn0 : -9223372036854775808 ≤ n) (hn1 : n ≤ 9223372036854775807) (hp0 : -9223372036854775808 ≤ p) (hp1 : p ≤ 9223372036854775807) (ht0 : -9223372036854775808 ≤ t) (ht1 : t ≤ 9223372036854775807) (hr0 : -9223372036854775808 ≤ r) (hr1 : r ≤ 9223372036854775807) :
    Calls Try.prog 27 #[.int .i64 n, .int .i64 p, .int .i64 t, .int .i64 r] w fun e w' => e = .returned (.bool (ft n p t r)) ∧ w = w' := by
  have b1 := lf_bd n p r hp1
  have b2 := sc_bd t ht1
  have HH := Lib.hid (ft_lf n p t r hp1 ht1)
  by_cases a : 0 ≤ lf n p r
  · have a' : decide (0 ≤ lf n p r) = true := by simpa using a
    rw [a', Bool.true_and] at HH
    go_enter Try.func27, Try.ntmps27
    go_wp2_with fail
    refine (refLeft_any n p r _ hn0 hn1 hp0 hp1 hr0 hr1).mono ?_
    rintro e w' ⟨rfl, rfl⟩
    go_wp2_with fail
    refine (refSectors_any t _ ht0 ht1).mono ?_
    rintro e w' ⟨rfl, rfl⟩
    go_wp2
    go_ret
    exact ⟨ret_b HH.out.symm, rfl⟩
  · have a' : decide (0 ≤ lf n p r) = false := by simpa using a
    rw [a', Bool.false_and] at HH
    go_enter Try.func27, Try.ntmps27
    go_wp2_with fail
    refine (refLeft_any n p r _ hn0 hn1 hp0 hp1 hr0 hr1).mono ?_
    rintro e w' ⟨rfl, rfl⟩
    go_wp2
    go_ret
    exact ⟨ret_b HH.out.symm, rfl⟩

/-- where a record stands, and what is told -/
def pl (n h s : Int) : Value := if s < 0 ∨ hf n ≤ s then .tuple #[.int .i64 0, .int .i64 8] else .tuple #[.int .i64 (fs n h + hf n - 1 - s), .int .i64 0]

set_option maxHeartbeats 800000 in
theorem place_any (n h s : Int) (w : World) (hn0 : -9223372036854775808 ≤ n) (hn1 : n ≤ 9223372036854775807) (hs0 : -9223372036854775808 ≤ s) (hs1 : s ≤ 9223372036854775807) :
    Calls Try.prog 14 #[.int .i64 n, .int .i64 h, .int .i64 s] w fun e w' => e = .returned (pl n h s) ∧ w = w' := by
  have b1 := hf_bd n
  have b3 := fs_bd n h
  by_cases a : s < 0
  · have HH := Lib.hid (show pl n h s = _ from if_pos (Or.inl a))
    go_enter Try.func14, Try.ntmps14
    go_wp2
    rw [HH.out]
    go_ret2
    exact ⟨rfl, rfl⟩
  · by_cases c : hf n ≤ s
    · have HH := Lib.hid (show pl n h s = _ from if_pos (Or.inr c))
      go_enter Try.func14, Try.ntmps14
      go_wp2_with fail
      refine (half_any n _ hn0 hn1).mono ?_
      rintro e w' ⟨rfl, rfl⟩
      go_wp2
      rw [HH.out]
      go_ret2
      exact ⟨rfl, rfl⟩
    · have HH := Lib.hid (show pl n h s = _ from if_neg (by omega))
      have c' : decide (hf n ≤ s) = false := by simpa using c
      go_enter Try.func14, Try.ntmps14
      go_wp2_with fail
      refine (half_any n _ hn0 hn1).mono ?_
      rintro e w' ⟨rfl, rfl⟩
      go_wp2_with fail
      refine (last_any n h _ hn0 hn1).mono ?_
      rintro e w' ⟨rfl, rfl⟩
      go_wp2
      rw [HH.out]
      go_ret2
      exact ⟨rfl, rfl⟩
end Go.Proofs.Ytgbagifmelkkhaa
