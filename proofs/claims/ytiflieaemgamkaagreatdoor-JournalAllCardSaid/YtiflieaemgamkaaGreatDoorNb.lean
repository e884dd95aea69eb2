/- Contracts of the document's Is and Row, and of name.Row. Condition of the rows: texts that fit a string. -/
import Derived.Test.YtiflieaemgamkaaGreatDoorNa
import Derived.RegionTactic
import Derived.Deep.QuietTactic
import Derived.BigQuiet
namespace Go.Proofs.YtiflieaemgamkaaGreatDoor
open Go.RowKit

set_option maxHeartbeats 1600000 in
theorem refIs_any (s : ByteArray) (w : World) (hs : s.size ≤ maxLen) :
    Calls Tryz.prog 147 #[.string s] w fun e w' => e = .returned (.bool (nm s)) ∧ w = w' := by
  unfold maxLen at hs
  go_enter Tryz.func147, Tryz.ntmps147
  go_wp2
  go_loop [3, 4, 5] (fun i _ _ => ∃ k : Nat, k ≤ s.size ∧ i = .int .i64 (k : Int) ∧ (s.data.toList.take k).all okc = true) (fun i _ _ => s.size - (intOf i).toNat)
  case atStart => exact ⟨0, Nat.zero_le _, rfl, rfl⟩
  case round =>
    obtain ⟨k, hk, rfl, hall⟩ := hrel
    have HA := Lib.hid hall
    clear hall
    by_cases hlt : k < s.size
    · have HT := Lib.hid (all_take s k hlt)
      have hcb := s[k].toNat_lt
      have HV := Lib.hid (show okc s[k] = ((decide (97 ≤ s[k].toNat) && decide (s[k].toNat ≤ 122)) || (decide (48 ≤ s[k].toNat) && decide (s[k].toNat ≤ 57)) || decide (s[k].toNat = 45)) from rfl)
      have HN := fun hb => Lib.hid (nm_bad s k hlt hb)
      have HNN := Lib.hid HN
      clear HN
      by_cases z : 97 ≤ s[k].toNat ∧ s[k].toNat ≤ 122
      · have d0 : decide (97 ≤ (s[k].toNat : Int)) = true := by simp; omega
        have d1 : decide ((s[k].toNat : Int) ≤ 122) = true := by simp; omega
        have d2 : decide (48 ≤ (s[k].toNat : Int)) = true := by simp; omega
        have d3 : decide ((s[k].toNat : Int) ≤ 57) = false := by simp; omega
        have d4 : ((s[k].toNat : Int) != 45) = true := by simp; omega
        have HO := Lib.hid (show okc s[k] = true by rw [HV.out]; simp; omega)
        clear hcb z
        go_wp2
        go_round
        case rel => exact ⟨k + 1, by omega, by go_num, by rw [HT.out, HA.out, HO.out]; rfl⟩
        case measure => simp [intOf]; omega
      have y0 := z
      clear z
      by_cases z : 122 < s[k].toNat
      · have d0 : decide (97 ≤ (s[k].toNat : Int)) = true := by simp; omega
        have d1 : decide ((s[k].toNat : Int) ≤ 122) = false := by simp; omega
        have d2 : decide (48 ≤ (s[k].toNat : Int)) = true := by simp; omega
        have d3 : decide ((s[k].toNat : Int) ≤ 57) = false := by simp; omega
        have d4 : ((s[k].toNat : Int) != 45) = true := by simp; omega
        have HO := Lib.hid (show okc s[k] = false by rw [HV.out]; simp; omega)
        have HB := Lib.hid (HNN.out HO.out).out
        clear hcb z
        go_wp2
        go_ret
        exact ⟨ret_b2 HB.out.symm, rfl⟩
      have y1 := z
      clear z
      by_cases z : 48 ≤ s[k].toNat ∧ s[k].toNat ≤ 57
      · have d0 : decide (97 ≤ (s[k].toNat : Int)) = false := by simp; omega
        have d1 : decide ((s[k].toNat : Int) ≤ 122) = true := by simp; omega
        have d2 : decide (48 ≤ (s[k].toNat : Int)) = true := by simp; omega
        have d3 : decide ((s[k].toNat : Int) ≤ 57) = true := by simp; omega
        have d4 : ((s[k].toNat : Int) != 45) = true := by simp; omega
        have HO := Lib.hid (show okc s[k] = true by rw [HV.out]; simp; omega)
        clear hcb z
        go_wp2
        go_round
        case rel => exact ⟨k + 1, by omega, by go_num, by rw [HT.out, HA.out, HO.out]; rfl⟩
        case measure => simp [intOf]; omega
      have y2 := z
      clear z
      by_cases z : 57 < s[k].toNat
      · have d0 : decide (97 ≤ (s[k].toNat : Int)) = false := by simp; omega
        have d1 : decide ((s[k].toNat : Int) ≤ 122) = true := by simp; omega
        have d2 : decide (48 ≤ (s[k].toNat : Int)) = true := by simp; omega
        have d3 : decide ((s[k].toNat : Int) ≤ 57) = false := by simp; omega
        have d4 : ((s[k].toNat : Int) != 45) = true := by simp; omega
        have HO := Lib.hid (show okc s[k] = false by rw [HV.out]; simp; omega)
        have HB := Lib.hid (HNN.out HO.out).out
        clear hcb z
        go_wp2
        go_ret
        exact ⟨ret_b2 HB.out.symm, rfl⟩
      have y3 := z
      clear z
      by_cases z : s[k].toNat = 45
      · have d0 : decide (97 ≤ (s[k].toNat : Int)) = false := by simp; omega
        have d1 : decide ((s[k].toNat : Int) ≤ 122) = true := by simp; omega
        have d2 : decide (48 ≤ (s[k].toNat : Int)) = false := by simp; omega
        have d3 : decide ((s[k].toNat : Int) ≤ 57) = true := by simp; omega
        have d4 : ((s[k].toNat : Int) != 45) = false := by simp; omega
        have HO := Lib.hid (show okc s[k] = true by rw [HV.out]; simp; omega)
        clear hcb z
        go_wp2
        go_round
        case rel => exact ⟨k + 1, by omega, by go_num, by rw [HT.out, HA.out, HO.out]; rfl⟩
        case measure => simp [intOf]; omega
      have y4 := z
      clear z
      have z := True.intro
      have d0 : decide (97 ≤ (s[k].toNat : Int)) = false := by simp; omega
      have d1 : decide ((s[k].toNat : Int) ≤ 122) = true := by simp; omega
      have d2 : decide (48 ≤ (s[k].toNat : Int)) = false := by simp; omega
      have d3 : decide ((s[k].toNat : Int) ≤ 57) = true := by simp; omega
      have d4 : ((s[k].toNat : Int) != 45) = true := by simp; omega
      have HO := Lib.hid (show okc s[k] = false by rw [HV.out]; simp; omega)
      have HB := Lib.hid (HNN.out HO.out).out
      clear hcb z
      go_wp2
      go_ret
      exact ⟨ret_b2 HB.out.symm, rfl⟩
    · obtain rfl : k = s.size := by omega
      by_cases a1 : (s.size : Int) < 1
      · have HB := Lib.hid (nm_long s (Or.inl (by omega)))
        have d0 : decide (1 ≤ (s.size : Int)) = false := decide_eq_false (by omega)
        have d1 : decide (1 ≤ s.size) = false := decide_eq_false (by omega)
        go_wp2
        all_goals go_ret
        all_goals exact ⟨ret_b2 HB.out.symm, rfl⟩
      · by_cases a2 : 12 < (s.size : Int)
        · have HB := Lib.hid (nm_long s (Or.inr (by omega)))
          have d0 : decide (1 ≤ (s.size : Int)) = true := decide_eq_true (by omega)
          have d1 : decide ((s.size : Int) ≤ 12) = false := by simp; omega
          go_wp2
          all_goals go_ret
          all_goals exact ⟨ret_b2 HB.out.symm, rfl⟩
        · have HB := Lib.hid (nm_good s (by omega) (by omega) HA.out)
          have d0 : decide (1 ≤ (s.size : Int)) = true := decide_eq_true (by omega)
          have d1 : decide ((s.size : Int) ≤ 12) = true := by simp; omega
          go_wp2
          all_goals go_ret
          all_goals exact ⟨ret_b2 HB.out.symm, rfl⟩
end Go.Proofs.YtiflieaemgamkaaGreatDoor
