/- NameBack: a row with a name that was not there, and without it again, is the row; rows stay rows. No condition. -/
import Derived.Test.YtlkhgjgefhcicaaRows
import Derived.Test.YtlkhgjgefhcicaaNv
namespace Go.Proofs.Ytlkhgjgefhcicaa.LNameBack
open Go.RowKit

set_option maxRecDepth 100000 in
set_option maxHeartbeats 3200000 in
theorem walk (a : Option Addr) (len cap : Nat) (ss : List ByteArray) (x : ByteArray) (w : World) (hsl : SlN w a len ss) (hlc : len ≤ cap) (hcm : cap ≤ maxLen) (hx : x.size ≤ maxLen) (hss : ∀ s ∈ ss, s.size ≤ maxLen) :
    Calls Try.prog 5 #[.slice a len cap, .string x] w fun e w' => e = .returned (.bool true) ∧ Below w.heap.size w w' := by
  have hcm2 := hcm
  unfold maxLen at hcm2
  have HSL := Lib.hid hsl
  have HSS := Lib.hid hss
  have HLN := Lib.hid hsl.1
  clear hsl hss
  by_cases g2 : len ≤ 60
  rotate_left
  · go_enter Try.func5, Try.ntmps5
    go_wp2_with fail
    refine (few5_no a len cap w g2 (by omega)).mono ?_
    rintro e w' ⟨rfl, rfl⟩
    go_wp2_with fail
    refine (nameAwake_any _).mono ?_
    rintro e wz ⟨rfl, hbz⟩
    go_wp2
    go_ret
    exact ⟨rfl, hbz⟩
  obtain ⟨z, hz⟩ : ∃ z, z = rowE ⟨#[]⟩ ss := ⟨_, rfl⟩
  have HZ := Lib.hid hz
  by_cases g3 : z = 0
  rotate_left
  · have q0 : (z != 0) = true := by simpa using g3
    clear hz
    go_enter Try.func5, Try.ntmps5
    go_wp2_with fail
    refine (few5_any a len cap ss w HSL.out g2 HSS.out).mono ?_
    rintro e w' ⟨d, rfl, rfl⟩
    cases d with
    | false =>
      go_wp2_with fail
      refine (nameAwake_any _).mono ?_
      rintro e wz ⟨rfl, hbz⟩
      go_wp2
      go_ret
      exact ⟨rfl, hbz⟩
    | true =>
      go_wp2_with fail
      refine (nrow_any a len cap ss _ HSL.out (by unfold maxLen; omega) HSS.out).mono ?_
      rintro e w' ⟨rfl, rfl⟩
      rw [← HZ.out]
      go_wp2_with fail
      refine (nameAwake_any _).mono ?_
      rintro e wz ⟨rfl, hbz⟩
      go_wp2
      go_ret
      exact ⟨rfl, hbz⟩
  obtain ⟨hnm, hri⟩ := row0_ok ss (hz.symm.trans g3)
  clear hz
  subst g3
  have HNM := Lib.hid hnm
  have HI := Lib.hid hri
  clear hnm hri
  cases hn : nm x with
  | false =>
    have HC := Lib.hid (nck_no x hn)
    clear hn
    go_enter Try.func5, Try.ntmps5
    go_wp2_with fail
    refine (few5_any a len cap ss w HSL.out g2 HSS.out).mono ?_
    rintro e w' ⟨d, rfl, rfl⟩
    cases d with
    | false =>
      go_wp2_with fail
      refine (nameAwake_any _).mono ?_
      rintro e wz ⟨rfl, hbz⟩
      go_wp2
      go_ret
      exact ⟨rfl, hbz⟩
    | true =>
      go_wp2_with fail
      refine (nrow_any a len cap ss _ HSL.out (by unfold maxLen; omega) HSS.out).mono ?_
      rintro e w' ⟨rfl, rfl⟩
      rw [← HZ.out]
      go_wp2_with fail
      refine (ncheck_any x _ hx).mono ?_
      rintro e w' ⟨rfl, rfl⟩
      rw [HC.out]
      go_wp2_with fail
      refine (nameAwake_any _).mono ?_
      rintro e wz ⟨rfl, hbz⟩
      go_wp2
      go_ret
      exact ⟨rfl, hbz⟩
  | true =>
    have HC := Lib.hid (nck_yes x hn)
    have HN := Lib.hid hn
    clear hn
    have HW1 := Lib.hid (rise_with x HI.out)
    have HW2 := Lib.hid (with_nm HNM.out HN.out)
    have HE1 := Lib.hid (ok_row0 _ HW2.out HW1.out)
    have HE2 := Lib.hid (ok_row0 _ (only_nm (b := [x]) HW2.out) (rise_only [x] HW1.out))
    have HL1 := Lib.hid (with_len ss x)
    have HL2 := Lib.hid (wo_len HW1.out (with_in ss x))
    have HSZ := Lib.hid (show ∀ s ∈ withL ss x, s.size ≤ maxLen from fun s hs => by
      rcases mem_with.1 hs with rfl | m
      · exact hx
      · exact HSS.out s m)
    cases hq : inB ss x
    all_goals
      have HQ := Lib.hid hq
      have HBK := Lib.hid (fun h => back_no (x := x) HI.out h)
      clear hq
      go_enter Try.func5, Try.ntmps5
      go_wp2_with fail
      refine (few5_any a len cap ss w HSL.out g2 HSS.out).mono ?_
      rintro e w' ⟨d, rfl, rfl⟩
      cases d with
      | false =>
        go_wp2_with fail
        refine (nameAwake_any _).mono ?_
        rintro e wz ⟨rfl, hbz⟩
        go_wp2
        go_ret
        exact ⟨rfl, hbz⟩
      | true =>
        go_wp2_with fail
        refine (nrow_any a len cap ss _ HSL.out (by unfold maxLen; omega) HSS.out).mono ?_
        rintro e w' ⟨rfl, rfl⟩
        rw [← HZ.out]
        go_wp2_with fail
        refine (ncheck_any x _ hx).mono ?_
        rintro e w' ⟨rfl, rfl⟩
        rw [HC.out]
        go_wp2_with fail
        refine (with_all a len cap ss x _ HSL.out (by omega) hlc HI.out).mono ?_
        rintro e w1 ⟨v1, rfl, ⟨a1, c1, rfl, hs1, hc1, hm1⟩, hb1⟩
        rw [HQ.out]
        have HS1 := Lib.hid hs1
        have HB1 := Lib.hid hb1
        have hn1 : (withL ss x).length ≤ 61 := by have := HL1.out; rw [HLN.out] at this; omega
        obtain ⟨n1, hn1e⟩ : ∃ n, n = (withL ss x).length := ⟨_, rfl⟩
        rw [← hn1e] at hn1 hc1
        have HE := Lib.hid hn1e
        have HS1' := Lib.hid (show SlN w1 a1 n1 (withL ss x) by rw [hn1e]; exact hs1)
        clear hs1 hb1 HS1
        rw [← hn1e]
        clear hn1e
        go_wp2_with fail
        refine (without_all a1 n1 c1 (withL ss x) x _ HS1'.out (by omega) hc1 HW1.out).mono ?_
        rintro e w2 ⟨v2, rfl, ⟨a2, c2, rfl, hs2, hc2, hm2⟩, hb2⟩
        rw [with_in ss x]
        obtain ⟨n2, hn2e⟩ : ∃ n, n = (onlyL (withL ss x) [x]).length := ⟨_, rfl⟩
        have hn12 : n1 = n2 + 1 := by rw [hn2e, HE.out]; exact HL2.out.symm
        rw [← hn2e] at hc2
        have HS2 := Lib.hid (show SlN w2 a2 n2 (onlyL (withL ss x) [x]) by rw [hn2e]; exact hs2)
        have HU2 := Lib.hid hb2
        have HB2 := Lib.hid (HB1.out.trans (hb2.mono HB1.out.size))
        clear hs2 hb2
        rw [← hn2e]
        clear hn2e
        subst hn12
        go_wp2_with fail
        refine (nrow_any a1 (n2 + 1) c1 _ _ (HS1'.out.later HU2.out) (by unfold maxLen; omega) HSZ.out).mono ?_
        rintro e w' ⟨rfl, rfl⟩
        rw [HE1.out]
        go_wp2_with fail
        refine (nrow_any a2 n2 c2 _ _ HS2.out (by unfold maxLen; omega) (fun s hs => HSZ.out s (mem_only.1 hs).1)).mono ?_
        rintro e w' ⟨rfl, rfl⟩
        rw [HE2.out]
        first
        | (go_wp2_with fail
           refine (texts_ts _ _ ss _ (by have h := HS2.out.ts hc2 hm2; rw [HBK.out HQ.out] at h; exact h) ((HSL.out.later HB2.out).ts hlc hcm) (by rw [HLN.out]; omega)).mono ?_
           rintro e w3 ⟨rfl, hb3⟩
           have HB3 := Lib.hid (HB2.out.trans (hb3.mono HB2.out.size))
           clear hb3
           go_wp2_with fail
           refine (nameAwake_any _).mono ?_
           rintro e wz ⟨rfl, hbz⟩
           go_wp2
           go_ret
           exact ⟨rfl, HB3.out.trans (hbz.mono HB3.out.size)⟩)
        | (
           go_wp2_with fail
           refine (nameAwake_any _).mono ?_
           rintro e wz ⟨rfl, hbz⟩
           go_wp2
           go_ret
           exact ⟨rfl, HB2.out.trans (hbz.mono HB2.out.size)⟩)
end Go.Proofs.Ytlkhgjgefhcicaa.LNameBack
