/- The chapter's example of layer 14, and whether texts are gone through. Condition: the table of crc. -/
import Derived.Test.YtjmfmbokphagaaaDoorGc
namespace Go.Proofs.YtjmfmbokphagaaaDoor
open Go.RowKit Vi Cm

set_option maxHeartbeats 1000000 in
set_option maxRecDepth 100000 in
theorem awake14_any (w : World) (hT : Tab w) : Calls Tryd.prog 26 #[] w fun e w' => e = .returned (.bool true) ∧ Below w.heap.size w w' := by
  have HT := Lib.hid hT
  clear hT
  go_enter Tryd.func26, Tryd.ntmps26
  go_wp2_with fail
  have h1 := fput_any ⟨#[97]⟩ w HT.out (by decide)
  rw [rowV_one_ok ⟨#[97]⟩ (by decide), frm_a] at h1
  refine h1.mono ?_
  clear h1
  rintro e w1 ⟨rfl, hb⟩
  have B1 := Lib.hid hb
  clear hb
  go_wp2_with fail
  have h2 := take_any ⟨#[5, 97, 67, 190, 183, 232, 120]⟩ w1 (by decide) (HT.out.later B1.out)
  rw [take_ax] at h2
  refine h2.mono ?_
  clear h2
  rintro e w2 ⟨rfl, hb⟩
  have B2 := Lib.hid (B1.out.trans (hb.mono B1.out.size))
  clear hb
  go_wp2_with fail
  obtain ⟨w3, hw3⟩ : ∃ w3, w3 = w2.alloc (.cells #[.string ⟨#[97]⟩] 9) := ⟨_, rfl⟩
  obtain ⟨M, hM⟩ : ∃ M, M = w2.heap.size := ⟨_, rfl⟩
  have HS := Lib.hid (show StrS w3 (some ⟨M, 0, none⟩) 1 [⟨#[97]⟩] by rw [hw3, hM]; exact str_one w2 _)
  have B3 := Lib.hid (show Below w.heap.size w w3 by rw [hw3]; exact B2.out.alloc B2.out.size _)
  rw [← hw3, ← hM]
  clear hw3 hM
  have h3 := fsize_any (some ⟨M, 0, none⟩) 1 1 [⟨#[97]⟩] w3 HS.out (by omega) (by decide)
  rw [show (catF [⟨#[97]⟩]).length = 6 by rw [catF_one, frm_a]; rfl] at h3
  refine h3.mono ?_
  clear h3
  rintro e w4 ⟨rfl, hb⟩
  have B4 := Lib.hid (B3.out.trans (hb.mono B3.out.size))
  clear hb
  go_wp2_with fail
  go_ret
  exact ⟨rfl, B4.out⟩
/-- are texts gone through? -/
def FewR (ss : List ByteArray) (len : Nat) (e : Ending) : Prop := ∃ b : Bool, e = .returned (.bool b) ∧ (b = true → len ≤ 60 ∧ (catS ss).length ≤ 5000)
set_option maxHeartbeats 1000000 in
set_option maxRecDepth 100000 in
theorem few14_any (a : Option Addr) (len cap : Nat) (ss : List ByteArray) (w : World) (hsl : StrS w a len ss) (hz : ∀ s ∈ ss, s.size ≤ maxLen) :
    Calls Tryd.prog 25 #[.slice a len cap] w fun e w' => FewR ss len e ∧ w = w' := by
  by_cases hle : len ≤ 60
  · have HB := Lib.hid (tbytes_any a len cap ss w hsl (by omega) hz)
    have hd : decide ((len : Int) ≤ 60) = true := decide_eq_true (by omega)
    have HL := Lib.hid hle
    clear hsl hz hle
    go_enter Tryd.func25, Tryd.ntmps25
    go_wp2_with fail
    refine HB.out.mono ?_
    rintro e w1 ⟨⟨r, rfl, hr⟩, rfl⟩
    have HR := Lib.hid hr
    clear hr HB
    by_cases h5 : r ≤ 5000
    · have hd2 : decide ((r : Int) ≤ 5000) = true := decide_eq_true (by omega)
      have HF := Lib.hid (show FewR ss len (.returned (.bool true)) from ⟨true, rfl, fun _ => ⟨HL.out, by rw [HR.out (by omega)]; exact h5⟩⟩)
      go_wp2_with fail
      go_ret
      exact ⟨HF.out, rfl⟩
    · have hd2 : decide ((r : Int) ≤ 5000) = false := decide_eq_false (by omega)
      have HF := Lib.hid (show FewR ss len (.returned (.bool false)) from ⟨false, rfl, fun h => by cases h⟩)
      go_wp2_with fail
      go_ret
      exact ⟨HF.out, rfl⟩
  · have hd : decide ((len : Int) ≤ 60) = false := decide_eq_false (by omega)
    have HF := Lib.hid (show FewR ss len (.returned (.bool false)) from ⟨false, rfl, fun h => by cases h⟩)
    clear hsl hz hle
    go_enter Tryd.func25, Tryd.ntmps25
    go_wp2_with fail
    go_ret
    exact ⟨HF.out, rfl⟩
end Go.Proofs.YtjmfmbokphagaaaDoor
