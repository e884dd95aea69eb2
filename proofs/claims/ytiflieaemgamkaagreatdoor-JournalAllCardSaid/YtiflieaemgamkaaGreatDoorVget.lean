/- Contracts of varint.mayEnd, varint.Get and varint.GetInt over this translation: for every text that fits a string, what is taken off its front. -/
import Derived.Test.YtiflieaemgamkaaGreatDoorVg
import Derived.Test.YtiflieaemgamkaaGreatDoorVm
namespace Go.Proofs.YtiflieaemgamkaaGreatDoor
open Go.RowKit Vi

set_option maxHeartbeats 400000 in
theorem mayEnd_any (b i : Nat) (w : World) (h1 : b ≤ 255) (h3 : i ≤ 10) :
    Calls Tryz.prog 246 #[.int .u64 b, .int .i64 i] w fun e w' => e = .returned (.bool (mayB b i)) ∧ w = w' := by
  have hv : mayB b i = ((decide (0 < b) || decide (i = 0)) && (decide (b ≤ 1) || decide (i < 9))) := rfl
  have HV := Lib.hid hv; clear hv
  by_cases a1 : 0 < b
  · by_cases a2 : b ≤ 1
    · go_enter Tryz.func246, Tryz.ntmps246
      go_wp2
      go_ret
      exact ⟨by rw [HV.out]; simp [*], rfl⟩
    · by_cases a3 : i < 9
      all_goals go_enter Tryz.func246, Tryz.ntmps246
      all_goals go_wp2
      all_goals go_ret
      all_goals exact ⟨by rw [HV.out]; simp [a1, a2, a3]; omega, rfl⟩
  · obtain rfl : b = 0 := by omega
    by_cases a2 : i = 0
    · subst a2
      go_enter Tryz.func246, Tryz.ntmps246
      go_wp2
      go_ret
      exact ⟨by rw [HV.out]; simp, rfl⟩
    · have a3 : ((i : Int) == 0) = false := by simp; omega
      go_enter Tryz.func246, Tryz.ntmps246
      go_wp2
      go_ret
      exact ⟨by rw [HV.out]; simp [a2], rfl⟩

/-- what Get answers -/
def gv (l : List UInt8) : Value := .tuple #[.int .u64 (gn l), .int .i64 (gk l), .bool (gb l)]
theorem gv_none {l : List UInt8} (h : Vi.get l = none) : gv l = .tuple #[.int .u64 0, .int .i64 0, .bool false] := by
  obtain ⟨a, b, c⟩ := get_none_is h; simp [gv, a, b, c]

set_option maxHeartbeats 400000 in
set_option maxRecDepth 100000 in
theorem get_any (s : ByteArray) (w : World) (hs : s.size ≤ maxLen) :
    Calls Tryz.prog 231 #[.string s] w fun e w' => e = .returned (gv s.data.toList) ∧ w = w' := by
  unfold maxLen at hs
  by_cases h10 : 10 < s.size
  all_goals
    go_enter Tryz.func231, Tryz.ntmps231
    go_wp2
    go_loop [2, 5, 6, 10] (fun n b c i => ∃ (k acc : Nat), i = .int .i64 k ∧ n = .int .u64 acc ∧ k ≤ 10 ∧ k ≤ s.size ∧ (k < 10 → acc < 128 ^ k ∧ Vi.get s.data.toList = gt (10 - k) k acc (s.data.toList.drop k)) ∧ (k = 10 → Vi.get s.data.toList = none) ∧ (acc : Int) ≤ 18446744073709551615) (fun _ _ _ i => 10 - (intOf i).toNat)
    case atStart => exact ⟨0, 0, rfl, rfl, by omega, by omega, by simp [Vi.get], by omega, by omega⟩
    case round =>
      obtain ⟨k, acc, rfl, rfl, hk, hks, hrel, hrel2, hacc⟩ := hrel
      have HR := Lib.hid hrel; clear hrel
      have HR2 := Lib.hid hrel2; clear hrel2
      by_cases hlt : k < s.size
      · by_cases hlt2 : k < 10
        · have hb8 : (s[k].toNat : Int) ≤ 255 := by have := s[k].toNat_lt; omega
          by_cases hb : s[k].toNat < 128
          · have hb2 : (s[k].toNat : Int) < 128 := by omega
            have hst := Lib.hid (gt_stop hlt hlt2 hb (HR.out hlt2))
            go_wp2_with fail
            refine (mayEnd_any s[k].toNat k _ (by omega) (by omega)).mono ?_
            rintro e w' ⟨rfl, rfl⟩
            cases hm : mayB s[k].toNat k with
            | true =>
              have hf := hst.out.1 hm
              have HF := Lib.hid hf; clear hf
              clear hst hm
              go_wp2
              go_ret3
              refine ⟨?_, rfl⟩
              obtain ⟨e1, e2, e3⟩ := HF.out
              rw [or_wrap _ _ _ hacc, e1]
              simp only [gv, e2, e3]
              rfl
            | false =>
              have hf := gv_none (hst.out.2 hm)
              have HF := Lib.hid hf; clear hf
              clear hst hm
              go_wp2
              go_ret3
              exact ⟨congrArg Ending.returned HF.out.symm, rfl⟩
          · have hb2 : ¬ (s[k].toNat : Int) < 128 := by omega
            have hst := Lib.hid (gt_go hlt hlt2 (by omega) (HR.out hlt2))
            go_wp2_with fail
            go_round
            case rel =>
              refine ⟨k + 1, (acc ||| (s[k].toNat - 128) * 128 ^ k % 18446744073709551616), by go_num, ?_, by omega, by omega, hst.out.1, hst.out.2, or_lt _ _ hacc⟩
              have e : ((s[k].toNat : Int) - 128) = ((s[k].toNat - 128 : Nat) : Int) := by omega
              rw [e, or_wrap _ _ _ hacc]
            case measure => simp [intOf]; omega
        · have hf := gv_none (HR2.out (by omega))
          have HF := Lib.hid hf; clear hf
          go_wp2
          all_goals go_ret3
          all_goals exact ⟨congrArg Ending.returned HF.out.symm, rfl⟩
      · have hf : gv s.data.toList = .tuple #[.int .u64 0, .int .i64 0, .bool false] := by
          by_cases h : k < 10
          · exact gv_none (gt_none h (by omega) (HR.out h))
          · exact gv_none (HR2.out (by omega))
        have HF := Lib.hid hf; clear hf
        go_wp2
        all_goals go_ret3
        all_goals exact ⟨congrArg Ending.returned HF.out.symm, rfl⟩

end Go.Proofs.YtiflieaemgamkaaGreatDoor
