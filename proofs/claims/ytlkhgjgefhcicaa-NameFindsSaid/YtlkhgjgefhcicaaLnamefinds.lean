/- NameFinds: where any text stands in a list that rises, and the list with it, and without it, is as the document says; lists that come in stay. No condition. -/
import Derived.Test.YtlkhgjgefhcicaaRows
import Derived.Test.YtlkhgjgefhcicaaNv
namespace Go.Proofs.Ytlkhgjgefhcicaa.LNameFinds
open Go.RowKit

set_option maxRecDepth 100000 in
set_option maxHeartbeats 3200000 in
theorem walk (a : Option Addr) (len cap : Nat) (ss : List ByteArray) (x : ByteArray) (w : World) (hsl : SlN w a len ss) (hlc : len ≤ cap) (hcm : cap ≤ maxLen) (hx : x.size ≤ maxLen) (hss : ∀ s ∈ ss, s.size ≤ maxLen) :
    Calls Try.prog 3 #[.slice a len cap, .string x] w fun e w' => e = .returned (.bool true) ∧ Below w.heap.size w w' := by
  have hx2 := hx
  have hcm2 := hcm
  unfold maxLen at hx2 hcm2
  have HSL := Lib.hid hsl
  have HSS := Lib.hid hss
  have HLN := Lib.hid hsl.1
  clear hsl hss
  by_cases g1 : 1000 < (x.size : Int)
  · go_enter Try.func3, Try.ntmps3
    go_wp2_with fail
    refine (nameAwake_any _).mono ?_
    rintro e wz ⟨rfl, hbz⟩
    go_wp2
    go_ret
    exact ⟨rfl, hbz⟩
  by_cases g2 : len ≤ 60
  rotate_left
  · go_enter Try.func3, Try.ntmps3
    go_wp2_with fail
    refine (few5_no a len cap w g2 (by omega)).mono ?_
    rintro e w' ⟨rfl, rfl⟩
    go_wp2_with fail
    refine (nameAwake_any _).mono ?_
    rintro e wz ⟨rfl, hbz⟩
    go_wp2
    go_ret
    exact ⟨rfl, hbz⟩
  cases hr : riseB ss with
  | false =>
    have HR := Lib.hid hr
    clear hr
    go_enter Try.func3, Try.ntmps3
    go_wp2_with fail
    refine (few5_any a len cap ss w HSL.out g2 HSS.out).mono ?_
    rintro e w' ⟨b, rfl, rfl⟩
    cases b with
    | false =>
      go_wp2_with fail
      refine (nameAwake_any _).mono ?_
      rintro e wz ⟨rfl, hbz⟩
      go_wp2
      go_ret
      exact ⟨rfl, hbz⟩
    | true =>
      go_wp2_with fail
      refine (rises_any a len cap ss _ HSL.out (by omega)).mono ?_
      rintro e w1 ⟨rfl, hb1⟩
      rw [HR.out]
      have HB1 := Lib.hid hb1
      clear hb1
      go_wp2_with fail
      refine (nameAwake_any _).mono ?_
      rintro e wz ⟨rfl, hbz⟩
      go_wp2
      go_ret
      exact ⟨rfl, HB1.out.trans (hbz.mono HB1.out.size)⟩
  | true =>
    have HR := Lib.hid hr
    have HI := Lib.hid (rise_chain ss hr)
    clear hr
    have q1 : (((lessN ss x : Nat) : Int) != ((lessN ss x : Nat) : Int)) = false := by simp
    cases hq : inB ss x
    all_goals
      have HQ := Lib.hid hq
      clear hq
      go_enter Try.func3, Try.ntmps3
      go_wp2_with fail
      refine (few5_any a len cap ss w HSL.out g2 HSS.out).mono ?_
      rintro e w' ⟨b, rfl, rfl⟩
      cases b with
      | false =>
        go_wp2_with fail
        refine (nameAwake_any _).mono ?_
        rintro e wz ⟨rfl, hbz⟩
        go_wp2
        go_ret
        exact ⟨rfl, hbz⟩
      | true =>
        go_wp2_with fail
        refine (rises_any a len cap ss _ HSL.out (by omega)).mono ?_
        rintro e w1 ⟨rfl, hb1⟩
        rw [HR.out]
        have HB1 := Lib.hid hb1
        clear hb1
        go_wp2_with (at_builtin; refine wpList_app rfl _ _ rfl w.heap.size w (HB1.out.alloc HB1.out.size _) ?z1 _ [] rfl (own_zero_b w1 _ HB1.out.size) a len cap ss rfl (HSL.out.later (HB1.out.alloc HB1.out.size _)) ?z2 ?_)
        case z1 => have := HB1.out.size; simp; omega
        case z2 => simp only [List.length_nil]; omega
        intro v2 w2 HO2 HB2 HZ2
        have HT2 := Lib.hid (show TS w2 v2 ss from TS.of_own HO2.out)
        go_wp2_with fail
        refine (find_all a len cap ss x _ (HSL.out.later HB2.out) (by omega) HI.out).mono ?_
        rintro e w' ⟨rfl, rfl⟩
        rw [HQ.out]
        go_wp2_with fail
        refine (with_all a len cap ss x _ (HSL.out.later HB2.out) (by omega) hlc HI.out).mono ?_
        rintro e w3 ⟨v3, rfl, ht3, hb3⟩
        rw [HQ.out]
        have HT3 := Lib.hid ht3
        have HU3 := Lib.hid hb3
        have HB3 := Lib.hid (HB2.out.trans (hb3.mono HB2.out.size))
        clear ht3 hb3
        go_wp2_with fail
        refine (without_all a len cap ss x _ (HSL.out.later HB3.out) (by omega) hlc HI.out).mono ?_
        rintro e w4 ⟨v4, rfl, ht4, hb4⟩
        rw [HQ.out]
        have HT4 := Lib.hid ht4
        have HU4 := Lib.hid hb4
        have HB4 := Lib.hid (HB3.out.trans (hb4.mono HB3.out.size))
        clear ht4 hb4
        go_wp2_with fail
        refine (refLess_any a len cap ss x _ (HSL.out.later HB4.out) (by omega)).mono ?_
        rintro e w' ⟨rfl, rfl⟩
        go_wp2_with fail
        refine (refIn_any a len cap ss x _ (HSL.out.later HB4.out) (by omega)).mono ?_
        rintro e w' ⟨rfl, rfl⟩
        rw [HQ.out]
        go_wp2_with fail
        refine (texts_ts _ _ ss _ ((HSL.out.later HB4.out).ts hlc hcm) (HT2.out.later (HU3.out.trans (HU4.out.mono HU3.out.size))) (by rw [HLN.out]; omega)).mono ?_
        rintro e w5 ⟨rfl, hb5⟩
        have HU5 := Lib.hid hb5
        have HB5 := Lib.hid (HB4.out.trans (hb5.mono HB4.out.size))
        clear hb5
        go_wp2_with fail
        refine (refWith_any a len cap ss x _ (HSL.out.later HB5.out) (by omega) hlc hcm).mono ?_
        rintro e w6 ⟨v6, rfl, ht6, hb6⟩
        have HT6 := Lib.hid ht6
        have HU6 := Lib.hid hb6
        have HB6 := Lib.hid (HB5.out.trans (hb6.mono HB5.out.size))
        clear ht6 hb6
        go_wp2_with fail
        refine (texts_ts _ _ (withL ss x) _ (HT3.out.later (HU4.out.trans ((HU5.out.trans (HU6.out.mono HU5.out.size)).mono HU4.out.size))) HT6.out (by have := with_len ss x; rw [HLN.out] at this; omega)).mono ?_
        rintro e w7 ⟨rfl, hb7⟩
        have HU7 := Lib.hid hb7
        have HB7 := Lib.hid (HB6.out.trans (hb7.mono HB6.out.size))
        clear hb7
        go_wp2_with fail
        refine (refOnly_any a len cap ss _ 1 1 [x] _ (HSL.out.later (HB7.out.alloc HB7.out.size _)) (sl_one w7 x) (by omega) (by omega)).mono ?_
        rintro e w8 ⟨v8, rfl, ht8, hb8⟩
        have HT8 := Lib.hid ht8
        have HU8 := Lib.hid (show Below w7.heap.size w7 w8 from ((Below.refl _ w7).alloc (Nat.le_refl _) _).trans (hb8.mono (by simp)))
        have HB8 := Lib.hid (HB7.out.trans (HU8.out.mono HB7.out.size))
        clear ht8 hb8
        go_wp2_with fail
        refine (texts_ts _ _ (onlyL ss [x]) _ (HT4.out.later (HU5.out.trans ((HU6.out.trans ((HU7.out.trans (HU8.out.mono HU7.out.size)).mono HU6.out.size)).mono HU5.out.size))) HT8.out (by have := only_len ss [x]; rw [HLN.out] at this; omega)).mono ?_
        rintro e w9 ⟨rfl, hb9⟩
        have HB9 := Lib.hid (HB8.out.trans (hb9.mono HB8.out.size))
        clear hb9
        go_wp2_with fail
        refine (nameAwake_any _).mono ?_
        rintro e wz ⟨rfl, hbz⟩
        go_wp2
        go_ret
        exact ⟨rfl, HB9.out.trans (hbz.mono HB9.out.size)⟩
end Go.Proofs.Ytlkhgjgefhcicaa.LNameFinds
