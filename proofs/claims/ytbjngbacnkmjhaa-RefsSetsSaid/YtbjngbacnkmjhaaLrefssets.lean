/- The walk of RefsSets over this translation. Condition: a slice that is no longer than a slice may be, texts that are no longer than a text may be. -/
import Derived.Test.YtbjngbacnkmjhaaRFg
namespace Go.Proofs.Ytbjngbacnkmjhaa.LRefsSets
open Go.RowKit Vi

set_option maxRecDepth 100000 in
set_option maxHeartbeats 8000000 in
theorem walk (A : Option Addr) (n c : Nat) (l : List Rf) (k : Int) (s old now : ByteArray) (w : World) (h : RdX rfC 3 w A n l) (hnc : n ≤ c) (hcm : c ≤ maxLen) (hz : ∀ r ∈ l, r.2.1.size ≤ maxLen) (hs : s.size ≤ maxLen) :
    Calls Try.prog 11 #[.slice A n c, .int .i64 k, .string s, .string old, .string now] w fun e w' => e = .returned (.bool true) ∧ Below w.heap.size w w' := by
  have hm : n ≤ maxLen := Nat.le_trans hnc hcm
  have H := Lib.hid h
  have LL := Lib.hid h.1
  have HFW := Lib.hid (fun (W : World) (q : RdX rfC 3 W A n l) => rffew_any A n c l W q hm)
  have HWR := Lib.hid (fun (W : World) (q : RdX rfC 3 W A n l) => rfwrong_any A n c l W q hm hz)
  have HOK := Lib.hid (fun q : wrR l = 0 => wr_ok q)
  unfold maxLen at hm
  clear h hz
  go_enter Try.func11, Try.ntmps11
  go_wp2_with fail
  refine (HFW.out w H.out).mono ?_
  rintro e w1 ⟨b, rfl, hb70, hb⟩
  have HB := Lib.hid hb
  clear hb
  cases b with
  | false =>
    go_wp2_with fail
    refine (awake37 _).mono ?_
    rintro e w9 ⟨rfl, hb9⟩
    have HB9 := Lib.hid (HB.out.trans (hb9.mono HB.out.size))
    clear hb9
    go_wp2_with fail
    go_ret
    exact ⟨rfl, HB9.out⟩
  | true =>
    have hn := hb70 rfl
    clear hb70 HFW
    go_wp2_with fail
    refine (HWR.out _ (H.out.below HB.out)).mono ?_
    rintro e w2 ⟨rfl, hb⟩
    have HB2 := Lib.hid (HB.out.trans (hb.mono HB.out.size))
    clear hb HB HWR
    by_cases hw0 : wrR l = 0
    rotate_left
    · have e0 : (wrR l != 0) = true := by simpa using hw0
      generalize wrR l = wz at *
      go_wp2_with fail
      refine (awake37 _).mono ?_
      rintro e w9 ⟨rfl, hb9⟩
      have HB9 := Lib.hid (HB2.out.trans (hb9.mono HB2.out.size))
      clear hb9
      go_wp2_with fail
      go_ret
      exact ⟨rfl, HB9.out⟩
    have hok := HOK.out hw0
    rw [hw0]
    clear hw0 HOK
    by_cases g1 : s.size ≤ 100
    rotate_left
    · have d1 : decide ((100 : Int) < (s.size : Int)) = true := decide_eq_true (by omega)
      go_wp2_with fail
      refine (awake37 _).mono ?_
      rintro e w9 ⟨rfl, hb9⟩
      have HB9 := Lib.hid (HB2.out.trans (hb9.mono HB2.out.size))
      clear hb9
      go_wp2_with fail
      go_ret
      exact ⟨rfl, HB9.out⟩
    have d1 : decide ((100 : Int) < (s.size : Int)) = false := decide_eq_false (by omega)
    by_cases g2 : old.size ≤ 200
    rotate_left
    · have d2 : decide ((200 : Int) < (old.size : Int)) = true := decide_eq_true (by omega)
      go_wp2_with fail
      refine (awake37 _).mono ?_
      rintro e w9 ⟨rfl, hb9⟩
      have HB9 := Lib.hid (HB2.out.trans (hb9.mono HB2.out.size))
      clear hb9
      go_wp2_with fail
      go_ret
      exact ⟨rfl, HB9.out⟩
    have d2 : decide ((200 : Int) < (old.size : Int)) = false := decide_eq_false (by omega)
    by_cases g3 : now.size ≤ 200
    rotate_left
    · have d3 : decide ((200 : Int) < (now.size : Int)) = true := decide_eq_true (by omega)
      go_wp2_with fail
      refine (awake37 _).mono ?_
      rintro e w9 ⟨rfl, hb9⟩
      have HB9 := Lib.hid (HB2.out.trans (hb9.mono HB2.out.size))
      clear hb9
      go_wp2_with fail
      go_ret
      exact ⟨rfl, HB9.out⟩
    have d3 : decide ((200 : Int) < (now.size : Int)) = false := decide_eq_false (by omega)
    have HS1 := Lib.hid (fun (W : World) (q : RdX rfC 3 W A n l) => rfset_any A n c l k s old now W q hnc hok hs)
    have HS2 := Lib.hid (fun (W : World) (q : RdX rfC 3 W A n l) => rfdset_any A n c l k s old now W q (by omega) hs)
    have HG1 := Lib.hid (fun (W : World) (q : RdX rfC 3 W A n l) => rfget_any A n c l k s now W q (by omega) hok.rise)
    have HG2 := Lib.hid (fun (W : World) (q : RdX rfC 3 W A n l) => rfdget_any A n c l k s now W q (by unfold maxLen; omega))
    have HVK := Lib.hid (st_ok (k := k) (s := s) (old := old) (now := now) hok)
    clear hok
    generalize stV l k s old now = V at *
    generalize stE l k s old now = z at *
    generalize isR l (k, s, now) = m at *
    have em : (m.toList == m.toList) = true := by simp
    have ez : (z == z) = true := by simp
    have hVl : V.length ≤ 64 := HVK.out.len
    go_wp2_with (at_builtin; refine wpList_appXs rfl _ _ 93 97 _ 40 rfl Try.underlying93 info_rfB rfl (by omega) (by omega) rfC_len rfC_one w.heap.size w (HB2.out.alloc HB2.out.size _) (by have := HB2.out.size; simp; omega) _ [] rfl (OwX.zero (blk_new w2 _) HB2.out.size (Nat.zero_le _) rfl) A n c l rfl (H.out.below (HB2.out.alloc HB2.out.size _)) (by simp; omega) ?_)
    intro v3 w3 HO3 HB3 HZ3 HG3
    obtain ⟨A3, c3, hv3e, hx3, hc3, hm3⟩ := RV.own HO3.out
    subst hv3e
    have HX3 := Lib.hid hx3
    clear hx3 hc3 hm3 HO3 HG3 HZ3
    rw [LL.out] at HX3
    try rw [List.nil_append]
    rw [LL.out]
    go_wp2_with fail
    refine (HS1.out w3 (H.out.below HB3.out)).mono ?_
    rintro e w11 ⟨v4, rfl, ⟨A4, c4, rfl, hx4, -, -⟩, hb11⟩
    have HB101 := Lib.hid (HB3.out.trans (hb11.mono (by have := HB3.out.size; simp at this ⊢ <;> omega)))
    have HQ102 := Lib.hid (HX3.out.below hb11)
    clear HX3
    clear hb11 HB3 
    have HX4 := Lib.hid hx4
    clear hx4
    go_wp2_with fail
    refine (HS2.out w11 (H.out.below HB101.out)).mono ?_
    rintro e w12 ⟨v5, rfl, ⟨A5, c5, rfl, hx5, -, -⟩, hb12⟩
    have HB103 := Lib.hid (HB101.out.trans (hb12.mono (by have := HB101.out.size; simp at this ⊢ <;> omega)))
    have HQ104 := Lib.hid (HQ102.out.below hb12)
    clear HQ102
    have HQ105 := Lib.hid (HX4.out.below hb12)
    clear HX4
    clear hb12 HB101 
    have HX5 := Lib.hid hx5
    clear hx5
    go_wp2_with fail
    refine (rfsame_any A4 V.length c4 V A5 V.length c5 V w12 HQ105.out HX5.out (by unfold maxLen; omega)).mono ?_
    rintro e w13 ⟨rfl, hb13⟩
    have HB106 := Lib.hid (HB103.out.trans (hb13.mono (by have := HB103.out.size; simp at this ⊢ <;> omega)))
    have HQ107 := Lib.hid (HQ104.out.below hb13)
    clear HQ104
    have HQ108 := Lib.hid (HQ105.out.below hb13)
    clear HQ105
    have HQ109 := Lib.hid (HX5.out.below hb13)
    clear HX5
    clear hb13 HB103 
    rw [show sameR V V = true from decide_eq_true rfl]
    go_wp2_with fail
    refine (HG1.out w13 (H.out.below HB106.out)).mono ?_
    rintro e w14 ⟨rfl, hb14⟩
    have HB110 := Lib.hid (HB106.out.trans (hb14.mono HB106.out.size))
    have HQ111 := Lib.hid (HQ107.out.below hb14)
    clear HQ107
    have HQ112 := Lib.hid (HQ108.out.below hb14)
    clear HQ108
    have HQ113 := Lib.hid (HQ109.out.below hb14)
    clear HQ109
    clear hb14 HB106 
    go_wp2_with fail
    refine (HG2.out w14 (H.out.below HB110.out)).mono ?_
    rintro e w15 ⟨rfl, hb15⟩
    have HB114 := Lib.hid (HB110.out.trans (hb15.mono HB110.out.size))
    have HQ115 := Lib.hid (HQ111.out.below hb15)
    clear HQ111
    have HQ116 := Lib.hid (HQ112.out.below hb15)
    clear HQ112
    have HQ117 := Lib.hid (HQ113.out.below hb15)
    clear HQ113
    clear hb15 HB110 
    go_wp2_with fail
    refine (rfsame_any A n c l A3 n c3 l w15 (H.out.below HB114.out) HQ115.out (by unfold maxLen; omega)).mono ?_
    rintro e w16 ⟨rfl, hb16⟩
    have HB118 := Lib.hid (HB114.out.trans (hb16.mono (by have := HB114.out.size; simp at this ⊢ <;> omega)))
    have HQ119 := Lib.hid (HQ115.out.below hb16)
    clear HQ115
    have HQ120 := Lib.hid (HQ116.out.below hb16)
    clear HQ116
    have HQ121 := Lib.hid (HQ117.out.below hb16)
    clear HQ117
    clear hb16 HB114 
    rw [show sameR l l = true from decide_eq_true rfl]
    by_cases hz0 : z = 0
    · have e0 : (z != 0) = false := by simpa using hz0
      clear hz0
      go_wp2_with fail
      refine (rfwrong_any A4 V.length c4 V w16 HQ120.out (by unfold maxLen; omega) (ok_sz HVK.out)).mono ?_
      rintro e w17 ⟨rfl, hb17⟩
      have HB122 := Lib.hid (HB118.out.trans (hb17.mono HB118.out.size))
      have HQ123 := Lib.hid (HQ119.out.below hb17)
      clear HQ119
      have HQ124 := Lib.hid (HQ120.out.below hb17)
      clear HQ120
      have HQ125 := Lib.hid (HQ121.out.below hb17)
      clear HQ121
      clear hb17 HB118 
      rw [ok_wr HVK.out]
      go_wp2_with fail
      refine (awake37 w17).mono ?_
      rintro e w18 ⟨rfl, hb18⟩
      have HB126 := Lib.hid (HB122.out.trans (hb18.mono HB122.out.size))
      have HQ127 := Lib.hid (HQ123.out.below hb18)
      clear HQ123
      have HQ128 := Lib.hid (HQ124.out.below hb18)
      clear HQ124
      have HQ129 := Lib.hid (HQ125.out.below hb18)
      clear HQ125
      clear hb18 HB122 
      go_wp2_with fail
      go_ret
      exact ⟨rfl, HB126.out⟩
    · have e0 : (z != 0) = true := by simpa using hz0
      clear hz0
      go_wp2_with fail
      refine (awake37 w16).mono ?_
      rintro e w17 ⟨rfl, hb17⟩
      have HB122 := Lib.hid (HB118.out.trans (hb17.mono HB118.out.size))
      have HQ123 := Lib.hid (HQ119.out.below hb17)
      clear HQ119
      have HQ124 := Lib.hid (HQ120.out.below hb17)
      clear HQ120
      have HQ125 := Lib.hid (HQ121.out.below hb17)
      clear HQ121
      clear hb17 HB118 
      go_wp2_with fail
      go_ret
      exact ⟨rfl, HB122.out⟩
end Go.Proofs.Ytbjngbacnkmjhaa.LRefsSets
