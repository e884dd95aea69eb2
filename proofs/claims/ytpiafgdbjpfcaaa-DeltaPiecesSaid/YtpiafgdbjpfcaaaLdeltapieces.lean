/- DeltaPieces: any text as pieces of any base, and as their bytes, are the document's. No condition. -/
import Derived.Test.YtpiafgdbjpfcaaaRows
import Derived.Test.YtpiafgdbjpfcaaaDe
import Derived.Test.YtpiafgdbjpfcaaaDc
namespace Go.Proofs.Ytpiafgdbjpfcaaa.LDeltaPieces
open Go.RowKit Vi

set_option maxRecDepth 100000 in
set_option maxHeartbeats 2000000 in
theorem walk (B T : ByteArray) (w : World) :
    Calls Try.prog 3 #[.string B, .string T] w fun e w' => e = .returned (.bool true) ∧ Below w.heap.size w w' := by
  by_cases hb : B.size ≤ 400
  · have hd1 : decide ((400 : Int) < (B.size : Int)) = false := decide_eq_false (by omega)
    by_cases ht : T.size ≤ 400
    · have hd2 : decide ((400 : Int) < (T.size : Int)) = false := decide_eq_false (by omega)
      obtain ⟨L, hL⟩ : ∃ L, pcsW B.data.toList T.data.toList 0 0 [] = L := ⟨_, rfl⟩
      obtain ⟨S, hS⟩ : ∃ S : ByteArray, S = ⟨(putLs L).toArray⟩ := ⟨_, rfl⟩
      obtain ⟨h1, h2, h3⟩ := pcs_top B T (by omega) (by omega)
      rw [hL] at h1 h2 h3
      have H1 := Lib.hid h1
      have C1 := Lib.hid (hL ▸ rpieces_any B T w (by omega) (by omega))
      have C2 := Lib.hid (fun W : World => hL ▸ pieces_any B T W (by omega) (by omega))
      have C3 := Lib.hid (fun W : World => encode_any B T L S W (by omega) (by omega) hL hS)
      have HV := Lib.hid (show putV L = .tuple #[.string S, .bool true] by unfold putV; rw [if_pos (pcs_okP L h1), hS])
      have hq : (S.toList == S.toList) = true := by simp
      clear h1 hL hS
      go_enter Try.func3, Try.ntmps3
      go_wp2_with fail
      refine C1.out.mono ?_
      rintro e w1 ⟨v, rfl, hox, hb1, hz1⟩
      obtain ⟨A, c, rfl, hrd, _, _⟩ := hox.rd pcC_len
      have HR1 := Lib.hid hrd
      have HB1 := Lib.hid hb1
      clear hox hb1 hrd
      go_wp2_with fail
      refine (rdput_any A L.length c L w1 HR1.out (by omega) (by omega) (fun p hp => by have := (H1.out p hp).2; unfold maxLen; omega)).mono ?_
      rintro e w2 ⟨rfl, hb2⟩
      have HR2 := Lib.hid (HR1.out.below hb2)
      have HB2 := Lib.hid (HB1.out.trans (hb2.mono hz1))
      have hz2 := Nat.le_trans hz1 hb2.size
      clear hb2
      rw [HV.out]
      go_wp2_with fail
      refine (C3.out w2).mono ?_
      rintro e w3 ⟨rfl, hb3⟩
      have HR3 := Lib.hid (HR2.out.below hb3)
      have HB3 := Lib.hid (HB2.out.trans (hb3.mono hz2))
      have hz3 := Nat.le_trans hz2 hb3.size
      clear hb3
      go_wp2_with fail
      refine (C2.out w3).mono ?_
      rintro e w4 ⟨v2, rfl, hox, hb4, hz4⟩
      obtain ⟨A2, c2, rfl, hrd, _, _⟩ := hox.rd pcC_len
      have HR4 := Lib.hid (HR3.out.below hb4)
      have HQ4 := Lib.hid hrd
      have HB4 := Lib.hid (HB3.out.trans (hb4.mono hz3))
      have hz4' := Nat.le_trans hz3 hb4.size
      clear hox hb4 hrd
      go_wp2_with fail
      refine (same_any A2 A L.length L.length c2 c L L w4 HQ4.out HR4.out (by omega) (by omega)).mono ?_
      rintro e w5 ⟨rfl, hb5⟩
      have HB5 := Lib.hid (HB4.out.trans (hb5.mono hz4'))
      have hz5 := Nat.le_trans hz4' hb5.size
      clear hb5
      rw [decide_eq_true (rfl : L = L)]
      go_wp2_with fail
      refine (awake11 w5).mono ?_
      rintro e w6 ⟨rfl, hb6⟩
      have HB6 := Lib.hid (HB5.out.trans (hb6.mono hz5))
      clear hb6
      go_wp2_with fail
      go_ret
      exact ⟨rfl, HB6.out⟩
    · have hd2 : decide ((400 : Int) < (T.size : Int)) = true := decide_eq_true (by omega)
      clear hb ht
      go_enter Try.func3, Try.ntmps3
      go_wp2_with fail
      refine (awake11 w).mono ?_
      rintro e w6 ⟨rfl, hb6⟩
      have HB6 := Lib.hid hb6
      clear hb6
      go_wp2_with fail
      go_ret
      exact ⟨rfl, HB6.out⟩
  · have hd1 : decide ((400 : Int) < (B.size : Int)) = true := decide_eq_true (by omega)
    clear hb
    go_enter Try.func3, Try.ntmps3
    go_wp2_with fail
    refine (awake11 w).mono ?_
    rintro e w6 ⟨rfl, hb6⟩
    have HB6 := Lib.hid hb6
    clear hb6
    go_wp2_with fail
    go_ret
    exact ⟨rfl, HB6.out⟩
end Go.Proofs.Ytpiafgdbjpfcaaa.LDeltaPieces
