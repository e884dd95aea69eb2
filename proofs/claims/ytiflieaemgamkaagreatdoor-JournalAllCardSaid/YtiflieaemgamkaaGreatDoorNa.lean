/- Contracts of the library's comparisons of strings, of name.mayHave, Check and the document's Is. -/
import Derived.Test.YtiflieaemgamkaaGreatDoorProg
import Derived.WalkKit
import Derived.Lib.Hide
import Derived.WalkSpells
import Derived.WalkLawsBesides
import Derived.LoopTactic
namespace Go.Proofs.YtiflieaemgamkaaGreatDoor
open Go.RowKit

/-- may a name have this byte? -/
def okc (c : UInt8) : Bool := (decide (97 ≤ c.toNat) && decide (c.toNat ≤ 122)) || (decide (48 ≤ c.toNat) && decide (c.toNat ≤ 57)) || decide (c.toNat = 45)
/-- is a text a name? -/
def nm (s : ByteArray) : Bool := decide (1 ≤ s.size) && decide (s.size ≤ 12) && s.data.toList.all okc
theorem ret_b2 {a b : Bool} (h : a = b) : Ending.returned (.bool a) = .returned (.bool b) := by rw [h]

set_option maxHeartbeats 400000 in
theorem mayHave_any (c : UInt8) (w : World) : Calls Tryz.prog 207 #[.int .u8 (c.toNat : Int)] w fun e w' => e = .returned (.bool (okc c)) ∧ w = w' := by
  have hb := c.toNat_lt
  have HV := Lib.hid (show okc c = ((decide (97 ≤ c.toNat) && decide (c.toNat ≤ 122)) || (decide (48 ≤ c.toNat) && decide (c.toNat ≤ 57)) || decide (c.toNat = 45)) from rfl)
  generalize c.toNat = n at *
  by_cases a1 : 97 ≤ (n : Int)
  · by_cases a2 : (n : Int) ≤ 122
    · go_enter Tryz.func207, Tryz.ntmps207
      go_wp2
      go_ret
      exact ⟨ret_b2 (by rw [HV.out]; simp; omega), rfl⟩
    · have b3 : decide ((n : Int) ≤ 57) = false := by simp; omega
      have b4 : ((n : Int) == 45) = false := by simp; omega
      have b5 : decide (48 ≤ (n : Int)) = true := by simp; omega
      go_enter Tryz.func207, Tryz.ntmps207
      go_wp2
      go_ret
      exact ⟨ret_b2 (by rw [HV.out]; simp; omega), rfl⟩
  · by_cases a3 : 48 ≤ (n : Int)
    · by_cases a4 : (n : Int) ≤ 57
      · go_enter Tryz.func207, Tryz.ntmps207
        go_wp2
        go_ret
        exact ⟨ret_b2 (by rw [HV.out]; simp; omega), rfl⟩
      · have b4 : ((n : Int) == 45) = false := by simp; omega
        go_enter Tryz.func207, Tryz.ntmps207
        go_wp2
        go_ret
        exact ⟨ret_b2 (by rw [HV.out]; simp; omega), rfl⟩
    · by_cases a5 : n = 45
      · subst a5
        go_enter Tryz.func207, Tryz.ntmps207
        go_wp2
        go_ret
        exact ⟨ret_b2 (by rw [HV.out]; simp), rfl⟩
      · have b4 : ((n : Int) == 45) = false := by simp; omega
        go_enter Tryz.func207, Tryz.ntmps207
        go_wp2
        go_ret
        exact ⟨ret_b2 (by rw [HV.out]; simp; omega), rfl⟩

theorem all_take (s : ByteArray) (k : Nat) (h : k < s.size) : (s.data.toList.take (k + 1)).all okc = ((s.data.toList.take k).all okc && okc s[k]) := by
  have e : s.data.toList.take (k + 1) = s.data.toList.take k ++ [s[k]] := by
    rw [List.take_succ_eq_append_getElem (by simpa using h)]; rfl
  rw [e]; simp
theorem nm_long (s : ByteArray) (h : s.size < 1 ∨ 12 < s.size) : nm s = false := by unfold nm; simp; omega
theorem nm_bad (s : ByteArray) (k : Nat) (h : k < s.size) (hb : okc s[k] = false) : nm s = false := by
  have : s.data.toList.all okc = false := by
    rw [List.all_eq_false]
    exact ⟨s.data[k], Array.mem_toList_iff.2 (Array.getElem_mem h), by rw [show s.data[k] = s[k] from rfl, hb]; simp⟩
  unfold nm; rw [this]; simp
theorem nm_good (s : ByteArray) (h1 : 1 ≤ s.size) (h2 : s.size ≤ 12) (h : (s.data.toList.take s.size).all okc = true) : nm s = true := by
  rw [List.take_of_length_le (by simp)] at h
  unfold nm; rw [h]; simp; omega

/-- what Check answers -/
def nck (s : ByteArray) : Int := if nm s then 0 else 2
theorem nck_no (s : ByteArray) (h : nm s = false) : nck s = 2 := by unfold nck; rw [h]; rfl
theorem nck_yes (s : ByteArray) (h : nm s = true) : nck s = 0 := by unfold nck; rw [h]; rfl
theorem ret_n {a b : Int} (h : a = b) : Ending.returned (.int .i64 a) = .returned (.int .i64 b) := by rw [h]

set_option maxHeartbeats 400000 in
theorem ncheck_any (s : ByteArray) (w : World) (hs : s.size ≤ maxLen) :
    Calls Tryz.prog 158 #[.string s] w fun e w' => e = .returned (.int .i64 (nck s)) ∧ w = w' := by
  unfold maxLen at hs
  by_cases a1 : (s.size : Int) < 1
  · have HN := Lib.hid (nck_no s (nm_long s (Or.inl (by omega))))
    go_enter Tryz.func158, Tryz.ntmps158
    go_wp2
    go_ret
    exact ⟨ret_n HN.out.symm, rfl⟩
  · by_cases a2 : 12 < (s.size : Int)
    · have HN := Lib.hid (nck_no s (nm_long s (Or.inr (by omega))))
      go_enter Tryz.func158, Tryz.ntmps158
      go_wp2
      go_ret
      exact ⟨ret_n HN.out.symm, rfl⟩
    · go_enter Tryz.func158, Tryz.ntmps158
      go_wp2
      go_loop [3, 14] (fun _ i => ∃ k : Nat, k ≤ s.size ∧ i = .int .i64 (k : Int) ∧ (s.data.toList.take k).all okc = true) (fun _ i => s.size - (intOf i).toNat)
      case atStart => exact ⟨0, Nat.zero_le _, rfl, rfl⟩
      case round =>
        obtain ⟨k, hk, rfl, hall⟩ := hrel
        have HA := Lib.hid hall
        clear hall
        by_cases hlt : k < s.size
        · have HT := Lib.hid (all_take s k hlt)
          cases hok : okc s[k] with
          | true =>
            have HO := Lib.hid hok
            clear hok
            go_wp2_with fail
            refine (mayHave_any s[k] _).mono ?_
            rintro e w' ⟨rfl, rfl⟩
            rw [HO.out]
            go_wp2
            go_round
            case rel => exact ⟨k + 1, by omega, by go_num, by rw [HT.out, HA.out, HO.out]; rfl⟩
            case measure => simp [intOf]; omega
          | false =>
            have HN := Lib.hid (nck_no s (nm_bad s k hlt hok))
            have HO := Lib.hid hok
            clear hok
            go_wp2_with fail
            refine (mayHave_any s[k] _).mono ?_
            rintro e w' ⟨rfl, rfl⟩
            rw [HO.out]
            go_wp2
            go_ret
            exact ⟨ret_n HN.out.symm, rfl⟩
        · obtain rfl : k = s.size := by omega
          have HN := Lib.hid (nck_yes s (nm_good s (by omega) (by omega) HA.out))
          go_wp2
          go_ret
          exact ⟨ret_n HN.out.symm, rfl⟩
end Go.Proofs.YtiflieaemgamkaaGreatDoor
