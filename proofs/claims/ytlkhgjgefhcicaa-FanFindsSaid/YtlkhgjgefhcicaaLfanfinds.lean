/- FanFinds: any text is found among sums that rise just where it stands. No condition. -/
import Derived.Test.YtlkhgjgefhcicaaRows
import Derived.Test.YtlkhgjgefhcicaaFs
namespace Go.Proofs.Ytlkhgjgefhcicaa.LFanFinds
open Go.RowKit

set_option maxRecDepth 100000 in
set_option maxHeartbeats 3200000 in
theorem walk (a : Option Addr) (len cap : Nat) (ss : List ByteArray) (x : ByteArray) (w : World) (hsl : SlN w a len ss) (hlc : len ≤ cap) (hcm : cap ≤ maxLen) (hx : x.size ≤ maxLen) (hss : ∀ s ∈ ss, s.size ≤ maxLen) :
    Calls Try.prog 7 #[.slice a len cap, .string x] w fun e w' => e = .returned (.bool true) ∧ Below w.heap.size w w' := by
  have hx2 := hx
  have hcm2 := hcm
  unfold maxLen at hx2 hcm2
  have HSL := Lib.hid hsl
  have HSS := Lib.hid hss
  clear hsl hss
  by_cases g2 : len ≤ 100
  rotate_left
  · go_enter Try.func7, Try.ntmps7
    go_wp2_with fail
    refine (few12_no a len cap w g2 (by omega)).mono ?_
    rintro e w' ⟨rfl, rfl⟩
    go_wp2_with fail
    refine (fanAwake_any _).mono ?_
    rintro e wz ⟨rfl, hbz⟩
    go_wp2
    go_ret
    exact ⟨rfl, hbz⟩
  by_cases g1 : 1000 < (x.size : Int)
  · go_enter Try.func7, Try.ntmps7
    go_wp2_with fail
    refine (few12_any a len cap ss w HSL.out g2 HSS.out).mono ?_
    rintro e w' ⟨b, rfl, rfl⟩
    cases b
    all_goals
      go_wp2_with fail
      refine (fanAwake_any _).mono ?_
      rintro e wz ⟨rfl, hbz⟩
      go_wp2
      go_ret
      exact ⟨rfl, hbz⟩
  obtain ⟨z, hz⟩ : ∃ z, z = wR ⟨#[]⟩ ss := ⟨_, rfl⟩
  have HZ := Lib.hid hz
  by_cases g3 : z = 0
  rotate_left
  · have q0 : (z != 0) = true := by simpa using g3
    clear hz
    go_enter Try.func7, Try.ntmps7
    go_wp2_with fail
    refine (few12_any a len cap ss w HSL.out g2 HSS.out).mono ?_
    rintro e w' ⟨b, rfl, rfl⟩
    cases b with
    | false =>
      go_wp2_with fail
      refine (fanAwake_any _).mono ?_
      rintro e wz ⟨rfl, hbz⟩
      go_wp2
      go_ret
      exact ⟨rfl, hbz⟩
    | true =>
      go_wp2_with fail
      refine (refWrong_any a len cap ss _ HSL.out (by unfold maxLen; omega)).mono ?_
      rintro e w' ⟨rfl, q, rfl⟩
      rw [← HZ.out]
      go_wp2_with fail
      refine (fanAwake_any _).mono ?_
      rintro e wz ⟨rfl, hbz⟩
      go_wp2
      go_ret
      exact ⟨rfl, (bel_drewN2 (Below.refl _ w) q).trans hbz⟩
  have hok : wR ⟨#[]⟩ ss = 0 := hz.symm.trans g3
  obtain ⟨h32, hri⟩ := sum0_ok ss hok
  clear hz
  subst g3
  have HOK := Lib.hid hok
  have H32 := Lib.hid h32
  have HI := Lib.hid hri
  clear hok h32 hri
  obtain ⟨cs, HC, HIN, HSZ, HON, HA⟩ := fan_cells ss
  obtain ⟨K, hK⟩ : ∃ K, K = lessN ss x := ⟨_, rfl⟩
  have HK := Lib.hid hK
  clear hK
  cases hq : inB ss x
  all_goals
    have HQ := Lib.hid hq
    clear hq
    go_enter Try.func7, Try.ntmps7
    go_wp2_with fail
    refine (few12_any a len cap ss w HSL.out g2 HSS.out).mono ?_
    rintro e w' ⟨b, rfl, rfl⟩
    cases b with
    | false =>
      go_wp2_with fail
      refine (fanAwake_any _).mono ?_
      rintro e wz ⟨rfl, hbz⟩
      go_wp2
      go_ret
      exact ⟨rfl, hbz⟩
    | true =>
      go_wp2_with fail
      refine (refWrong_any a len cap ss _ HSL.out (by unfold maxLen; omega)).mono ?_
      rintro e w' ⟨rfl, q, rfl⟩
      rw [← HZ.out]
      have HB0 := Lib.hid (show Below w.heap.size w (w.drewN q) from bel_drewN2 (Below.refl _ w) q)
      go_wp2_with fail
      refine (of_valid a len cap ss _ (HSL.out.later HB0.out) (by omega) HOK.out).mono ?_
      rintro e w2 ⟨rfl, hb2⟩
      rw [← HC.out]
      have HB2 := Lib.hid (HB0.out.trans (hb2.mono HB0.out.size))
      clear hb2
      go_wp2_with (first
        | (refine wpList_store_rowN rfl 38 (.tmp 5) (.tmp 27) rfl w2.heap.size cs rfl rfl 38 _ (heap_alloc_new w2 _) HIN.out (by rw [HSZ.out]; simp) HON.out w.heap.size w (HB2.out.alloc HB2.out.size _) HB2.out.size ?_
           intro w3 HC3 HB3)
        | refine wpList_load_row rfl 38 (.tmp 5) rfl w2.heap.size rfl 38 cs (0, 0) _ HC3.out Try.underlying38 rfl HIN.out ?_)
      rw [HC.out]
      refine (find_valid a len cap ss x _ (HSL.out.later HB3.out) (by omega) hlc HI.out H32.out).mono ?_
      rintro e w4 ⟨rfl, hb4⟩
      rw [HQ.out]
      have HB4 := Lib.hid (HB3.out.trans (hb4.mono HB3.out.size))
      clear hb4
      first
      | (rw [atF_yes HQ.out, ← HK.out]
         have hk0 : 0 ≤ (K : Int) := by omega
         have hmx : max (K : Int) 0 = (K : Int) := by omega
         go_wp2_with fail
         refine (refAt_any a len cap ss x _ (HSL.out.later HB4.out) (by omega)).mono ?_
         rintro e w5 ⟨y, rfl, hy, rfl⟩
         have hy2 := at_yes HI.out hy HQ.out
         rw [← HK.out] at hy2
         subst hy2
         clear hy
         go_wp2_with fail
         refine (fanAwake_any _).mono ?_
         rintro e wz ⟨rfl, hbz⟩
         go_wp2
         go_ret
         exact ⟨rfl, HB4.out.trans (hbz.mono HB4.out.size)⟩)
      | (rw [atF_no HQ.out]
         go_wp2_with fail
         refine (refAt_any a len cap ss x _ (HSL.out.later HB4.out) (by omega)).mono ?_
         rintro e w5 ⟨y, rfl, hy, rfl⟩
         have hy2 := at_no hy HQ.out
         subst hy2
         clear hy
         go_wp2_with fail
         refine (fanAwake_any _).mono ?_
         rintro e wz ⟨rfl, hbz⟩
         go_wp2
         go_ret
         exact ⟨rfl, HB4.out.trans (hbz.mono HB4.out.size)⟩)
end Go.Proofs.Ytlkhgjgefhcicaa.LFanFinds
