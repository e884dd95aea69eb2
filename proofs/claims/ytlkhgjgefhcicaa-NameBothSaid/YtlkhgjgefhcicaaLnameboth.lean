/- NameBoth: what is in one of any two lists that rise alone, and in either, is as the document says. No condition. -/
import Derived.Test.YtlkhgjgefhcicaaRows
import Derived.Test.YtlkhgjgefhcicaaNv
namespace Go.Proofs.Ytlkhgjgefhcicaa.LNameBoth
open Go.RowKit

set_option maxRecDepth 100000 in
set_option maxHeartbeats 3200000 in
theorem walk (a : Option Addr) (la ca : Nat) (xs : List ByteArray) (b : Option Addr) (lb cb : Nat) (ys : List ByteArray) (w : World) (hxs : SlN w a la xs) (hlc : la ≤ ca) (hcm : ca ≤ maxLen) (hsx : ∀ s ∈ xs, s.size ≤ maxLen) (hys : SlN w b lb ys) (hlc2 : lb ≤ cb) (hcm2 : cb ≤ maxLen) (hsy : ∀ s ∈ ys, s.size ≤ maxLen) :
    Calls Try.prog 4 #[.slice a la ca, .slice b lb cb] w fun e w' => e = .returned (.bool true) ∧ Below w.heap.size w w' := by
  have hcm3 := hcm
  have hcm4 := hcm2
  unfold maxLen at hcm3 hcm4
  have HX := Lib.hid hxs
  have HY := Lib.hid hys
  have HSX := Lib.hid hsx
  have HSY := Lib.hid hsy
  have HLX := Lib.hid hxs.1
  have HLY := Lib.hid hys.1
  clear hxs hys hsx hsy
  by_cases g1 : la ≤ 60
  rotate_left
  · go_enter Try.func4, Try.ntmps4
    go_wp2_with fail
    refine (few5_no a la ca w g1 (by omega)).mono ?_
    rintro e w' ⟨rfl, rfl⟩
    go_wp2_with fail
    refine (nameAwake_any _).mono ?_
    rintro e wz ⟨rfl, hbz⟩
    go_wp2
    go_ret
    exact ⟨rfl, hbz⟩
  by_cases g2 : lb ≤ 60
  rotate_left
  · go_enter Try.func4, Try.ntmps4
    go_wp2_with fail
    refine (few5_any a la ca xs w HX.out g1 HSX.out).mono ?_
    rintro e w' ⟨d, rfl, rfl⟩
    cases d with
    | false =>
      go_wp2_with fail
      refine (nameAwake_any _).mono ?_
      rintro e wz ⟨rfl, hbz⟩
      go_wp2
      go_ret
      exact ⟨rfl, hbz⟩
    | true =>
      go_wp2_with fail
      refine (few5_no b lb cb w g2 (by omega)).mono ?_
      rintro e w' ⟨rfl, rfl⟩
      go_wp2_with fail
      refine (nameAwake_any _).mono ?_
      rintro e wz ⟨rfl, hbz⟩
      go_wp2
      go_ret
      exact ⟨rfl, hbz⟩
  cases hr : riseB xs
  all_goals
    cases hr2 : riseB ys
    all_goals
      have HR := Lib.hid hr
      have HR2 := Lib.hid hr2
      clear hr hr2
      go_enter Try.func4, Try.ntmps4
      go_wp2_with fail
      refine (few5_any a la ca xs w HX.out g1 HSX.out).mono ?_
      rintro e w' ⟨d, rfl, rfl⟩
      cases d with
      | false =>
        go_wp2_with fail
        refine (nameAwake_any _).mono ?_
        rintro e wz ⟨rfl, hbz⟩
        go_wp2
        go_ret
        exact ⟨rfl, hbz⟩
      | true =>
        go_wp2_with fail
        refine (few5_any b lb cb ys w HY.out g2 HSY.out).mono ?_
        rintro e w' ⟨d, rfl, rfl⟩
        cases d with
        | false =>
          go_wp2_with fail
          refine (nameAwake_any _).mono ?_
          rintro e wz ⟨rfl, hbz⟩
          go_wp2
          go_ret
          exact ⟨rfl, hbz⟩
        | true =>
          go_wp2_with fail
          refine (rises_any a la ca xs _ HX.out (by omega)).mono ?_
          rintro e w1 ⟨rfl, hb1⟩
          rw [HR.out]
          have HB1 := Lib.hid hb1
          clear hb1
          first
          | (go_wp2_with fail
             refine (rises_any b lb cb ys _ (HY.out.later HB1.out) (by omega)).mono ?_
             rintro e w2 ⟨rfl, hb2⟩
             rw [HR2.out]
             have HB2 := Lib.hid (HB1.out.trans (hb2.mono HB1.out.size))
             clear hb2
             first
             | (go_wp2_with fail
                refine (only_any a la ca xs b lb cb ys _ (HX.out.later HB2.out) (HY.out.later HB2.out) (by omega) (by omega) (rise_chain ys HR2.out)).mono ?_
                rintro e w3 ⟨v3, rfl, ht3, hb3⟩
                have HT3 := Lib.hid ht3
                have HB3 := Lib.hid (HB2.out.trans (hb3.mono HB2.out.size))
                clear ht3 hb3
                go_wp2_with fail
                refine (refOnly_any a la ca xs b lb cb ys _ (HX.out.later HB3.out) (HY.out.later HB3.out) (by omega) (by omega)).mono ?_
                rintro e w4 ⟨v4, rfl, ht4, hb4⟩
                have HT4 := Lib.hid ht4
                have HU4 := Lib.hid hb4
                have HB4 := Lib.hid (HB3.out.trans (hb4.mono HB3.out.size))
                clear ht4 hb4
                go_wp2_with fail
                refine (texts_ts _ _ (onlyL xs ys) _ (HT3.out.later HU4.out) HT4.out (by have := only_len xs ys; rw [HLX.out] at this; omega)).mono ?_
                rintro e w5 ⟨rfl, hb5⟩
                have HB5 := Lib.hid (HB4.out.trans (hb5.mono HB4.out.size))
                clear hb5
                go_wp2_with fail
                refine (all_any a la ca xs b lb cb ys _ (HX.out.later HB5.out) (HY.out.later HB5.out) (by omega) (by omega) hlc hlc2).mono ?_
                rintro e w6 ⟨v6, rfl, ht6, hb6⟩
                have HT6 := Lib.hid ht6
                have HB6 := Lib.hid (HB5.out.trans (hb6.mono HB5.out.size))
                clear ht6 hb6
                go_wp2_with fail
                refine (refAll_any a la ca xs b lb cb ys _ (HX.out.later HB6.out) (HY.out.later HB6.out) (by omega) (by omega) hlc hcm).mono ?_
                rintro e w7 ⟨v7, rfl, ht7, hb7⟩
                have HT7 := Lib.hid (show TS w7 v7 (mergeL xs ys) by rw [← all_merge (rise_chain xs HR.out) (rise_chain ys HR2.out)]; exact ht7)
                have HU7 := Lib.hid hb7
                have HB7 := Lib.hid (HB6.out.trans (hb7.mono HB6.out.size))
                clear ht7 hb7
                go_wp2_with fail
                refine (texts_ts _ _ (mergeL xs ys) _ (HT6.out.later HU7.out) HT7.out (by have := merge_len (rise_chain xs HR.out) (rise_chain ys HR2.out); rw [HLX.out, HLY.out] at this; omega)).mono ?_
                rintro e w8 ⟨rfl, hb8⟩
                have HB8 := Lib.hid (HB7.out.trans (hb8.mono HB7.out.size))
                clear hb8
                go_wp2_with fail
                refine (nameAwake_any _).mono ?_
                rintro e wz ⟨rfl, hbz⟩
                go_wp2
                go_ret
                exact ⟨rfl, HB8.out.trans (hbz.mono HB8.out.size)⟩)
             | (
                go_wp2_with fail
                refine (nameAwake_any _).mono ?_
                rintro e wz ⟨rfl, hbz⟩
                go_wp2
                go_ret
                exact ⟨rfl, HB2.out.trans (hbz.mono HB2.out.size)⟩))
          | (
             go_wp2_with fail
             refine (nameAwake_any _).mono ?_
             rintro e wz ⟨rfl, hbz⟩
             go_wp2
             go_ret
             exact ⟨rfl, HB1.out.trans (hbz.mono HB1.out.size)⟩)
end Go.Proofs.Ytlkhgjgefhcicaa.LNameBoth
