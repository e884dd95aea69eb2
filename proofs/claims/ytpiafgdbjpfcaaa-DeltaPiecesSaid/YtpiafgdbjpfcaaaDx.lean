/- The document's stands of layer 11 over this translation. -/
import Derived.Test.YtpiafgdbjpfcaaaDu
namespace Go.Proofs.Ytpiafgdbjpfcaaa
open Go.RowKit Vi

def stI (o : Option Nat) : Int := match o with | some p => (p : Int) | none => -1
theorem fsp_at (L s : List UInt8) (k : Nat) (h : k + 8 ≤ L.length) : fsp L s (L.length - 7 - k) = if win L k = s then some k else fsp L s (L.length - 7 - (k + 1)) := by
  have e : L.length - 7 - k = (L.length - 8 - k) + 1 := by omega
  have e2 : L.length - 8 - (L.length - 8 - k) = k := by omega
  have e3 : L.length - 7 - (k + 1) = L.length - 8 - k := by omega
  rw [e, fsp, e2, e3]
set_option maxRecDepth 100000 in
set_option maxHeartbeats 1600000 in
theorem rstands_any (B s : ByteArray) (w : World) (hB : B.size ≤ 3000) :
    Calls Try.prog 38 #[.string B, .string s] w fun e w' => e = .returned (.int .i64 (stI (stands B.data.toList s.data.toList))) ∧ Below w.heap.size w w' := by
  have hbl : B.data.toList.length = B.size := by simp
  have HBL := Lib.hid hbl
  clear hbl
  have hbi : (B.size : Int) ≤ 3000 := by omega
  go_enter Try.func38, Try.ntmps38
  go_wp2_with fail
  go_loopw [5] (fun i wr => ∃ k : Nat, i = .int .i64 (k : Int) ∧ k ≤ B.size ∧ stands B.data.toList s.data.toList = fsp B.data.toList s.data.toList (B.data.toList.length - 7 - k) ∧ Below w.heap.size w wr) (fun i _ => B.size - (intOf i).toNat)
  case atStart => exact ⟨0, rfl, Nat.zero_le _, rfl, Below.refl _ _⟩
  case round =>
    obtain ⟨k, rfl, hk, hst, hb⟩ := hrel
    have HS := Lib.hid hst
    have HB := Lib.hid hb
    clear hst hb
    by_cases h8 : k + 8 ≤ B.size
    · obtain ⟨X, hX⟩ : ∃ X, X = B.extract k (k + 8) := ⟨_, rfl⟩
      have hsl := run_win B k h8 X hX (k : Int) ((k : Int) + 8) rfl rfl
      have HWIN := Lib.hid (win_of B X k hX)
      have HF := Lib.hid (fsp_at B.data.toList s.data.toList k (by rw [HBL.out]; exact h8))
      have hk8 : decide ((k : Int) + 8 ≤ (B.size : Int)) = true := decide_eq_true (by omega)
      clear hX
      by_cases hxs : X = s
      · have HN := Lib.hid (show stI (stands B.data.toList s.data.toList) = (k : Int) by
          rw [HS.out, HF.out, if_pos (by rw [← HWIN.out, hxs])]; rfl)
        have hq : (X.toList == s.toList) = true := by rw [beq_iff_eq, hxs]
        clear hxs
        go_wp2_with fail
        go_ret
        exact ⟨by rw [HN.out]; rfl, HB.out⟩
      · have HN := Lib.hid (show stands B.data.toList s.data.toList = fsp B.data.toList s.data.toList (B.data.toList.length - 7 - (k + 1)) by
          rw [HS.out, HF.out, if_neg (by rw [← HWIN.out]; exact fun e => hxs (list_ext e))])
        have hq : (X.toList == s.toList) = false := by rw [beq_eq_false_iff_ne, Lib.toList_data, Lib.toList_data]; exact fun e => hxs (list_ext e)
        clear hxs
        go_wp2_with fail
        go_roundw
        case rel => exact ⟨k + 1, by go_num, by omega, HN.out, HB.out⟩
        case measure => simp [intOf] <;> omega
    · have hk8 : decide ((k : Int) + 8 ≤ (B.size : Int)) = false := decide_eq_false (by omega)
      have HN := Lib.hid (show stI (stands B.data.toList s.data.toList) = -1 by
        rw [HS.out, show B.data.toList.length - 7 - k = 0 by rw [HBL.out]; omega]; rfl)
      go_wp2_with fail
      go_ret
      exact ⟨by rw [HN.out]; rfl, HB.out⟩
end Go.Proofs.Ytpiafgdbjpfcaaa
