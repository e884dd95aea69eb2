/- BoundTells: for all numbers and rows of numbers of 64 bits, the bounds of any calls on any disk are the document's. No condition. -/
import Derived.Test.YtgbagifmelkkhaaRows
import Derived.Test.YtgbagifmelkkhaaBa
namespace Go.Proofs.Ytgbagifmelkkhaa.LBoundTells
open Go.RowKit Ar Bd

theorem ints_of_row (x : Addr) (len cap : Nat) (zs : List Int) (w : World) (hl : len ≤ cap) (hz : zs.length = cap)
    (hcell : ∀ i, i < zs.length → w.cell? (x.add i) = some (.int .i64 (zs.getD i 0))) : Ints w (some x) len (zs.take len) := by
  refine ⟨by simp; omega, fun hp => ?_⟩
  obtain ⟨b, off, spot⟩ := x
  have h0 := hcell 0 (by omega)
  have hspot : spot = none := by simpa [Addr.add] using World.cell?_spot h0
  subst hspot
  refine ⟨b, off, rfl, fun k hk => ?_⟩
  have hc := hcell k (by omega)
  rw [Addr.add_lit] at hc
  rw [hc]
  simp [List.getD_eq_getElem?_getD, hk]

set_option maxHeartbeats 1600000 in
theorem walk (n k : Int) (a : Option Addr) (len cap : Nat) (zs : List Int) (w : World) (hsl : Ints w a len zs) (hlm : len ≤ maxLen) (hn0 : -9223372036854775808 ≤ n) (hn1 : n ≤ 9223372036854775807) :
    Calls Try.prog 7 #[.int .i64 n, .int .i64 k, .slice a len cap] w fun e w' => e = .returned (.bool true) ∧ w = w' := by
  unfold maxLen at hlm
  by_cases hlen : 1000 < (len : Int)
  · go_enter Try.func7, Try.ntmps7
    go_wp2_with fail
    refine (boundAwake_any _).mono ?_
    rintro e w' ⟨rfl, rfl⟩
    go_wp2
    go_ret
    exact ⟨rfl, rfl⟩
  have hlen2 : len ≤ 1000 := by omega
  have HSL := Lib.hid hsl
  obtain ⟨hl, hcell⟩ := hsl
  have HL := Lib.hid hl
  have HC := Lib.hid hcell
  clear hl hcell hlen
  have hob := op_bd n
  have hhb := hf_bd n
  have q2 : (on n k == on n k) = true := by simp
  have q3 : (al n (op n) zs == al n (op n) zs) = true := by simp
  by_cases g : n < 16 ∨ 4096 < n
  · have z := hf0 n g
    have HO := Lib.hid (op_out n z)
    have q1 : (op n == 0) = true := by rw [HO.out]; rfl
    have z0 : decide (0 < hf n) = false := by simp; omega
    clear z g
    go_enter Try.func7, Try.ntmps7
    go_wp2_with fail
    refine (refHalf_any n _ hn0 hn1).mono ?_
    rintro e w' ⟨rfl, rfl⟩
    go_wp2_with fail
    go_loop [8, 24] (fun s i => ∃ j : Nat, j ≤ len ∧ i = .int .i64 (j : Int) ∧ s = .int .i64 (al n (op n) (zs.take j))) (fun _ i => len - (intOf i).toNat)
    case atStart => exact ⟨0, Nat.zero_le _, rfl, by rw [HO.out]; rfl⟩
    case round =>
      obtain ⟨j, hj, rfl, rfl⟩ := hrel
      have ab := al_bd n (zs.take j) (op n)
      have ab2 : (zs.take j).length ≤ j := List.length_take_le _ _
      by_cases hlt : j < len
      · obtain ⟨b, off, rfl, hcell⟩ := HC.out (by omega)
        have hcl := hcell j hlt
        have HX := Lib.hid hcell
        have ob := on_bd n (zs.getD j 0)
        have hs := al_snoc n (op n) (zs.take j) (zs.getD j 0)
        rw [← take_snoc zs j (by rw [HL.out]; exact hlt)] at hs
        have HS := Lib.hid hs
        clear hs hcell
        generalize zs.getD j 0 = x at hcl ob HS
        go_wp2_with fail
        refine (bOne_any n x _ hn0 hn1).mono ?_
        rintro e w' ⟨rfl, rfl⟩
        go_wp2
        go_round
        case rel => exact ⟨j + 1, by omega, by go_num, by rw [HS.out]⟩
        case measure => simp [intOf]; omega
      · have hfin : zs.take j = zs := List.take_of_length_le (by rw [HL.out]; omega)
        rw [hfin]
        rw [hfin] at ab ab2
        clear hfin
        go_wp2_with fail
        refine (bOpen_any n _ hn0 hn1).mono ?_
        rintro e w' ⟨rfl, rfl⟩
        go_wp2_with fail
        refine (bDo_any n k _ hn0 hn1).mono ?_
        rintro e w' ⟨rfl, rfl⟩
        go_wp2_with fail
        refine (bOne_any n k _ hn0 hn1).mono ?_
        rintro e w' ⟨rfl, rfl⟩
        go_wp2_with fail
        refine (bAll_any n a len cap zs _ HSL.out hlen2 hn0 hn1).mono ?_
        rintro e w' ⟨rfl, rfl⟩
        go_wp2_with fail
        refine (boundAwake_any _).mono ?_
        rintro e w' ⟨rfl, rfl⟩
        go_wp2
        go_ret
        exact ⟨rfl, rfl⟩
  · have g1 : 16 ≤ n := by omega
    have g2 : n ≤ 4096 := by omega
    have G := hf1 n g1 g2
    have z0 : decide (0 < hf n) = true := by simp; omega
    have HO := Lib.hid (op_in n G)
    have q1 : (op n == 2 * n + 8) = true := by rw [HO.out]; simp
    clear g
    go_enter Try.func7, Try.ntmps7
    go_wp2_with fail
    refine (refHalf_any n _ hn0 hn1).mono ?_
    rintro e w' ⟨rfl, rfl⟩
    go_wp2_with fail
    go_loop [8, 24] (fun s i => ∃ j : Nat, j ≤ len ∧ i = .int .i64 (j : Int) ∧ s = .int .i64 (al n (op n) (zs.take j))) (fun _ i => len - (intOf i).toNat)
    case atStart => exact ⟨0, Nat.zero_le _, rfl, by rw [HO.out]; rfl⟩
    case round =>
      obtain ⟨j, hj, rfl, rfl⟩ := hrel
      have ab := al_bd n (zs.take j) (op n)
      have ab2 : (zs.take j).length ≤ j := List.length_take_le _ _
      by_cases hlt : j < len
      · obtain ⟨b, off, rfl, hcell⟩ := HC.out (by omega)
        have hcl := hcell j hlt
        have HX := Lib.hid hcell
        have ob := on_bd n (zs.getD j 0)
        have hs := al_snoc n (op n) (zs.take j) (zs.getD j 0)
        rw [← take_snoc zs j (by rw [HL.out]; exact hlt)] at hs
        have HS := Lib.hid hs
        clear hs hcell
        generalize zs.getD j 0 = x at hcl ob HS
        go_wp2_with fail
        refine (bOne_any n x _ hn0 hn1).mono ?_
        rintro e w' ⟨rfl, rfl⟩
        go_wp2
        go_round
        case rel => exact ⟨j + 1, by omega, by go_num, by rw [HS.out]⟩
        case measure => simp [intOf]; omega
      · have hfin : zs.take j = zs := List.take_of_length_le (by rw [HL.out]; omega)
        rw [hfin]
        rw [hfin] at ab ab2
        clear hfin
        go_wp2_with fail
        refine (bOpen_any n _ hn0 hn1).mono ?_
        rintro e w' ⟨rfl, rfl⟩
        go_wp2_with fail
        refine (bDo_any n k _ hn0 hn1).mono ?_
        rintro e w' ⟨rfl, rfl⟩
        go_wp2_with fail
        refine (bOne_any n k _ hn0 hn1).mono ?_
        rintro e w' ⟨rfl, rfl⟩
        go_wp2_with fail
        refine (bAll_any n a len cap zs _ HSL.out hlen2 hn0 hn1).mono ?_
        rintro e w' ⟨rfl, rfl⟩
        go_wp2_with fail
        refine (boundAwake_any _).mono ?_
        rintro e w' ⟨rfl, rfl⟩
        go_wp2
        go_ret
        exact ⟨rfl, rfl⟩
end Go.Proofs.Ytgbagifmelkkhaa.LBoundTells
