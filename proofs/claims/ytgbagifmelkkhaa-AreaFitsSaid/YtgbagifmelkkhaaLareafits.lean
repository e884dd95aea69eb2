/- AreaFits: for all numbers of 64 bits, what fits, and how much room there is, are as the document says. No condition. -/
import Derived.Test.YtgbagifmelkkhaaRows
import Derived.Test.YtgbagifmelkkhaaRw
namespace Go.Proofs.Ytgbagifmelkkhaa.LAreaFits
open Go.RowKit Ar

theorem room_eq (n p r : Int) (hp1 : p ≤ 9223372036854775807) : (128 * max (fr n p r) 0 == 128 * max (lf n p r) 0) = true := by
  have := fr_lf n p r hp1
  rw [beq_iff_eq]; omega
theorem room_eq0 (n p r : Int) (hp1 : p ≤ 9223372036854775807) (h : lf n p r ≤ 0) : (128 * max (fr n p r) 0 == 0) = true := by
  have := fr_lf n p r hp1
  rw [beq_iff_eq]; omega
theorem room_eq1 (n p r : Int) (hp1 : p ≤ 9223372036854775807) (h : 0 ≤ lf n p r) : (128 * max (fr n p r) 0 == 128 * lf n p r) = true := by
  have := fr_lf n p r hp1
  rw [beq_iff_eq]; omega

set_option maxHeartbeats 1600000 in
theorem walk (n p t r : Int) (w : World) (hn0 : -9223372036854775808 ≤ n) (hn1 : n ≤ 9223372036854775807) (hp0 : -9223372036854775808 ≤ p) (hp1 : p ≤ 9223372036854775807) (ht0 : -9223372036854775808 ≤ t) (ht1 : t ≤ 9223372036854775807) (hr0 : -9223372036854775808 ≤ r) (hr1 : r ≤ 9223372036854775807) :
    Calls Try.prog 4 #[.int .i64 n, .int .i64 p, .int .i64 t, .int .i64 r] w fun e w' => e = .returned (.bool true) ∧ w = w' := by
  have b1 := fr_bd n p r hp1
  have b2 := lf_bd n p r hp1
  have q1 : (ft n p t r == ft n p t r) = true := by simp
  rcases Int.lt_or_le (lf n p r) 0 with h | h
  · have q2 := room_eq0 n p r hp1 (by omega)
    have q3 : decide (lf n p r ≤ 0) = true := by simp; omega
    go_enter Try.func4, Try.ntmps4
    go_wp2_with fail
    refine (refLeft_any n p r _ hn0 hn1 hp0 hp1 hr0 hr1).mono ?_
    rintro e w' ⟨rfl, rfl⟩
    go_wp2_with fail
    refine (fits_any n p t r _ hn0 hn1 hp0 hp1 ht0 ht1 hr0 hr1).mono ?_
    rintro e w' ⟨rfl, rfl⟩
    go_wp2_with fail
    refine (refFits_any n p t r _ hn0 hn1 hp0 hp1 ht0 ht1 hr0 hr1).mono ?_
    rintro e w' ⟨rfl, rfl⟩
    go_wp2_with fail
    refine (room_any n p r _ hn0 hn1 hp0 hp1 hr0 hr1).mono ?_
    rintro e w' ⟨rfl, rfl⟩
    go_wp2_with fail
    all_goals (refine (areaAwake_any _).mono ?_; rintro e w1 ⟨rfl, rfl⟩)
    all_goals go_wp2
    all_goals go_ret
    all_goals exact ⟨rfl, rfl⟩
  · have q2 := room_eq1 n p r hp1 (by omega)
    go_enter Try.func4, Try.ntmps4
    go_wp2_with fail
    refine (refLeft_any n p r _ hn0 hn1 hp0 hp1 hr0 hr1).mono ?_
    rintro e w' ⟨rfl, rfl⟩
    go_wp2_with fail
    refine (fits_any n p t r _ hn0 hn1 hp0 hp1 ht0 ht1 hr0 hr1).mono ?_
    rintro e w' ⟨rfl, rfl⟩
    go_wp2_with fail
    refine (refFits_any n p t r _ hn0 hn1 hp0 hp1 ht0 ht1 hr0 hr1).mono ?_
    rintro e w' ⟨rfl, rfl⟩
    go_wp2_with fail
    refine (room_any n p r _ hn0 hn1 hp0 hp1 hr0 hr1).mono ?_
    rintro e w' ⟨rfl, rfl⟩
    go_wp2_with fail
    all_goals (refine (areaAwake_any _).mono ?_; rintro e w1 ⟨rfl, rfl⟩)
    all_goals go_wp2
    all_goals go_ret
    all_goals exact ⟨rfl, rfl⟩
end Go.Proofs.Ytgbagifmelkkhaa.LAreaFits
