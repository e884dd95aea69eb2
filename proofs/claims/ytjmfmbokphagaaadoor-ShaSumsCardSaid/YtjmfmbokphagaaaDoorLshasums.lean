/- ShaSums: any bytes' sum. Condition: the table that the program's text lays. -/
import Derived.Test.YtjmfmbokphagaaaDoorRows
import Derived.Test.YtjmfmbokphagaaaDoorHw
import Derived.Test.YtjmfmbokphagaaaDoorHn
namespace Go.Proofs.YtjmfmbokphagaaaDoor.LShaSums
open Go.RowKit Hm

theorem sum_text (l : List UInt8) : ∃ T : ByteArray, Hid (T = ⟨(Hm.sum l).toArray⟩) ∧ T.size = 32 := ⟨_, rfl, by
  show (Hm.sum l).toArray.size = 32
  rw [List.size_toArray, sum_len]⟩
theorem cat_one (s : ByteArray) : catS [s] = s.data.toList := by simp [catS]
/-- the sum of one text, laid in a row of its own -/
theorem sum_one (s T : ByteArray) (W : World) (M : Nat) (hT : HTab W) (hS : StrS W (some ⟨M, 0, none⟩) 1 [s]) (hn : s.size ≤ 100000) (hTe : T = ⟨(Hm.sum s.data.toList).toArray⟩) :
    Calls Tryd.prog 13 #[.slice (some ⟨M, 0, none⟩) 1 1] W fun e w' => e = .returned (.string T) ∧ Below W.heap.size W w' := by
  have h := sumP_any (some ⟨M, 0, none⟩) 1 1 [s] W hT hS (by rw [cat_one]; simp; omega) (by omega)
  rw [cat_one, ← hTe] at h
  exact h
set_option maxHeartbeats 2000000 in
set_option maxRecDepth 100000 in
theorem walk (s : ByteArray) (w : World) (hT : HTab w) :
    Calls Tryd.prog 3 #[.string s] w fun e w' => e = .returned (.bool true) ∧ Below w.heap.size w w' := by
  have HT := Lib.hid hT
  clear hT
  obtain ⟨T2, e2, z2⟩ := sum_text [97, 98, 99]
  by_cases h : 1000 < s.size
  · have hd1 : decide ((1000 : Int) < (s.size : Int)) = true := decide_eq_true (by omega)
    clear h
    go_enter Tryd.func3, Tryd.ntmps3
    go_wp2_with fail
    obtain ⟨w0, hw0⟩ : ∃ w0, w0 = w.alloc (.cells #[.string ⟨#[97, 98, 99]⟩] 9) := ⟨_, rfl⟩
    have HS0 := Lib.hid (show StrS w0 (some ⟨w.heap.size, 0, none⟩) 1 [⟨#[97, 98, 99]⟩] by rw [hw0]; exact str_one w _)
    have B0 := Lib.hid (show Below w.heap.size w w0 by rw [hw0]; exact (Below.refl _ w).alloc (Nat.le_refl _) _)
    rw [← hw0]
    clear hw0
    refine (sum_one ⟨#[97, 98, 99]⟩ T2 w0 w.heap.size (HT.out.later B0.out) HS0.out (by decide) e2.out).mono ?_
    rintro e w1 ⟨rfl, hb⟩
    have B1 := Lib.hid (B0.out.trans (hb.mono B0.out.size))
    clear hb
    go_wp2_with fail
    refine (awake3_any w1 (HT.out.later B1.out)).mono ?_
    rintro e w2 ⟨rfl, hb⟩
    have B2 := Lib.hid (B1.out.trans (hb.mono B1.out.size))
    clear hb
    go_wp2_with fail
    go_ret
    exact ⟨rfl, B2.out⟩
  · have hd1 : decide ((1000 : Int) < (s.size : Int)) = false := decide_eq_false (by omega)
    obtain ⟨T, e1, z1⟩ := sum_text s.data.toList
    have HZ := Lib.hid h
    clear h
    go_enter Tryd.func3, Tryd.ntmps3
    go_wp2_with fail
    obtain ⟨v0, hv0⟩ : ∃ v0, v0 = w.alloc (.cells #[.string s] 9) := ⟨_, rfl⟩
    have VS0 := Lib.hid (show StrS v0 (some ⟨w.heap.size, 0, none⟩) 1 [s] by rw [hv0]; exact str_one w _)
    have V0 := Lib.hid (show Below w.heap.size w v0 by rw [hv0]; exact (Below.refl _ w).alloc (Nat.le_refl _) _)
    rw [← hv0]
    clear hv0
    refine (sum_one s T v0 w.heap.size (HT.out.later V0.out) VS0.out (by have := HZ.out; omega) e1.out).mono ?_
    rintro e v1 ⟨rfl, hb⟩
    have V1 := Lib.hid (V0.out.trans (hb.mono V0.out.size))
    clear hb
    go_wp2_with fail
    have hr := rsum_any s v1 (by have := HZ.out; omega)
    rw [← e1.out] at hr
    refine hr.mono ?_
    clear hr
    rintro e v2 ⟨rfl, hb⟩
    have V2 := Lib.hid (V1.out.trans (hb.mono V1.out.size))
    clear hb
    go_wp2_with fail
    obtain ⟨w0, hw0⟩ : ∃ w0, w0 = v2.alloc (.cells #[.string ⟨#[97, 98, 99]⟩] 9) := ⟨_, rfl⟩
    obtain ⟨M, hM⟩ : ∃ M, M = v2.heap.size := ⟨_, rfl⟩
    have HS0 := Lib.hid (show StrS w0 (some ⟨M, 0, none⟩) 1 [⟨#[97, 98, 99]⟩] by rw [hw0, hM]; exact str_one v2 _)
    have B0 := Lib.hid (show Below w.heap.size w w0 by rw [hw0]; exact V2.out.alloc V2.out.size _)
    rw [← hw0, ← hM]
    clear hw0 hM
    refine (sum_one ⟨#[97, 98, 99]⟩ T2 w0 M (HT.out.later B0.out) HS0.out (by decide) e2.out).mono ?_
    rintro e w1 ⟨rfl, hb⟩
    have B1 := Lib.hid (B0.out.trans (hb.mono B0.out.size))
    clear hb
    go_wp2_with fail
    refine (awake3_any w1 (HT.out.later B1.out)).mono ?_
    rintro e w2 ⟨rfl, hb⟩
    have B2 := Lib.hid (B1.out.trans (hb.mono B1.out.size))
    clear hb
    go_wp2_with fail
    go_ret
    exact ⟨rfl, B2.out⟩
end Go.Proofs.YtjmfmbokphagaaaDoor.LShaSums
