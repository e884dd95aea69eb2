/- The contracts of sha.digitOf, Unhex, and of the document's own Hex, place, Unhex over this translation. Conditions: texts of at most a million bytes. -/
import Derived.Test.YtpiafgdbjpfcaaaDoorWh
import Derived.Deep.QuietTactic
import Derived.BigQuiet
namespace Go.Proofs.YtpiafgdbjpfcaaaDoor
open Go.RowKit Hm

/-- what a digit counts, or -1 -/
def digI (c : UInt8) : Int := match dig c with | some x => (x : Int) | none => -1
theorem digI_lo (c : UInt8) (h1 : 48 ≤ c.toNat) (h2 : c.toNat ≤ 57) : digI c = (c.toNat : Int) - 48 := by
  unfold digI dig
  rw [if_pos ⟨h1, h2⟩]
  show ((c.toNat - 48 : Nat) : Int) = _
  omega
theorem digI_hi (c : UInt8) (h1 : 97 ≤ c.toNat) (h2 : c.toNat ≤ 102) : digI c = (c.toNat : Int) - 97 + 10 := by
  unfold digI dig
  rw [if_neg (by omega), if_pos ⟨h1, h2⟩]
  show ((c.toNat - 87 : Nat) : Int) = _
  omega
theorem digI_no (c : UInt8) (h1 : ¬ (48 ≤ c.toNat ∧ c.toNat ≤ 57)) (h2 : ¬ (97 ≤ c.toNat ∧ c.toNat ≤ 102)) : digI c = -1 := by
  unfold digI dig
  rw [if_neg h1, if_neg h2]
theorem digI_bd (c : UInt8) : -1 ≤ digI c ∧ digI c ≤ 15 := by
  by_cases h1 : 48 ≤ c.toNat ∧ c.toNat ≤ 57
  · rw [digI_lo c h1.1 h1.2]; omega
  · by_cases h2 : 97 ≤ c.toNat ∧ c.toNat ≤ 102
    · rw [digI_hi c h2.1 h2.2]; omega
    · rw [digI_no c h1 h2]; omega
theorem digI_some (c : UInt8) (x : Nat) (h : dig c = some x) : digI c = (x : Int) := by unfold digI; rw [h]
theorem digI_none (c : UInt8) (h : dig c = none) : digI c = -1 := by unfold digI; rw [h]
theorem retI {k : IntKind} {a b : Int} (h : a = b) : Ending.returned (.int k a) = .returned (.int k b) := by rw [h]
set_option maxRecDepth 100000 in
theorem digitOf_any (c : UInt8) (w : World) : Calls Tryd.prog 94 #[.int .u8 (c.toNat : Int)] w fun e w' => e = .returned (.int .i64 (digI c)) ∧ w = w' := by
  have hc : (c.toNat : Int) < 256 := by have := c.toNat_lt; omega
  have h0 : (0 : Int) ≤ (c.toNat : Int) := by omega
  by_cases h1 : 48 ≤ c.toNat ∧ c.toNat ≤ 57
  · have HD := Lib.hid (digI_lo c h1.1 h1.2)
    obtain ⟨a1, a2⟩ := h1
    have b1 : (48 : Int) ≤ (c.toNat : Int) := by omega
    have b2 : (c.toNat : Int) ≤ 57 := by omega
    go_enter Tryd.func94, Tryd.ntmps94
    go_wp2
    all_goals go_ret
    all_goals exact ⟨retI HD.out.symm, rfl⟩
  · by_cases h2 : 97 ≤ c.toNat ∧ c.toNat ≤ 102
    · have HD := Lib.hid (digI_hi c h2.1 h2.2)
      obtain ⟨a1, a2⟩ := h2
      have b0 : ¬ (c.toNat : Int) ≤ 57 := by omega
      have b1 : (97 : Int) ≤ (c.toNat : Int) := by omega
      have b2 : (c.toNat : Int) ≤ 102 := by omega
      go_enter Tryd.func94, Tryd.ntmps94
      go_wp2
      all_goals go_ret
      all_goals exact ⟨retI HD.out.symm, rfl⟩
    · have HD := Lib.hid (digI_no c h1 h2)
      have e1 : ¬ (48 ≤ (c.toNat : Int)) ∨ ¬ ((c.toNat : Int) ≤ 57) := by omega
      have e2 : ¬ (97 ≤ (c.toNat : Int)) ∨ ¬ ((c.toNat : Int) ≤ 102) := by omega
      clear h1 h2
      rcases e1 with e1 | e1 <;> rcases e2 with e2 | e2
      all_goals
        go_enter Tryd.func94, Tryd.ntmps94
        go_wp2
        all_goals go_ret
        all_goals exact ⟨retI HD.out.symm, rfl⟩
/-- the document's: 16, if it is none -/
def plcI (c : UInt8) : Int := match dig c with | some x => (x : Int) | none => 16
theorem plcI_some (c : UInt8) (x : Nat) (h : dig c = some x) : plcI c = (x : Int) := by unfold plcI; rw [h]
theorem plcI_none (c : UInt8) (h : dig c = none) : plcI c = 16 := by unfold plcI; rw [h]
theorem plcI_bd (c : UInt8) : 0 ≤ plcI c ∧ plcI c ≤ 16 := by
  unfold plcI
  cases h : dig c with
  | none => simp
  | some x => have := (hexd_dig c x h).1; simp only; omega
theorem dig_is (c : UInt8) (k : Nat) (hk : k < 16) : (hexd k = c) = (dig c = some k) := by
  apply propext
  constructor
  · intro h; rw [← h]; exact dig_hexd k hk
  · intro h; exact (hexd_dig c k h).2
theorem eq_u8 (a b : UInt8) (h : a ≠ b) : ((a.toNat : Int) == (b.toNat : Int)) = false := by
  rw [beq_eq_false_iff_ne]
  intro e
  exact h (UInt8.toNat_inj.1 (by omega))
set_option maxRecDepth 100000 in
set_option maxHeartbeats 800000 in
theorem place_any (c : UInt8) (w : World) : Calls Tryd.prog 63 #[.int .u8 (c.toNat : Int)] w fun e w' => e = .returned (.int .i64 (plcI c)) ∧ w = w' := by
  go_enter Tryd.func63, Tryd.ntmps63
  go_wp2_with fail
  go_loop [4] (fun i => ∃ (k : Nat), i = .int .i64 (k : Int) ∧ k ≤ 16 ∧ ∀ j, j < k → dig c ≠ some j) (fun i => 16 - (intOf i).toNat)
  case atStart => exact ⟨0, rfl, by omega, fun j hj => by omega⟩
  case round =>
    obtain ⟨k, rfl, hk, hn⟩ := hrel
    have HN := Lib.hid hn
    clear hn
    by_cases hlt : k < 16
    · have hd := run_digW .i64 k hlt (k : Int) rfl
      by_cases he : hexd k = c
      · have hq : (((hexd k).toNat : Int) == (c.toNat : Int)) = true := by rw [he]; simp
        have HP := Lib.hid (plcI_some c k ((dig_is c k hlt).mp he))
        clear he
        go_wp2_with fail
        go_ret
        exact ⟨retI HP.out.symm, rfl⟩
      · have hq : (((hexd k).toNat : Int) == (c.toNat : Int)) = false := eq_u8 _ _ he
        have HK := Lib.hid (show dig c ≠ some k from fun h => he ((dig_is c k hlt).mpr h))
        clear he
        go_wp2_with fail
        go_round
        case rel => exact ⟨k + 1, by go_num, by omega, fun j hj => by
          rcases Nat.lt_or_ge j k with h | h
          · exact HN.out j h
          · obtain rfl : j = k := by omega
            exact HK.out⟩
        case measure => simp [intOf]; omega
    · obtain rfl : k = 16 := by omega
      have HP := Lib.hid (show plcI c = 16 from plcI_none c (by
        cases h : dig c with
        | none => rfl
        | some x => exact absurd h (HN.out x (hexd_dig c x h).1)))
      go_wp2_with fail
      go_ret
      exact ⟨retI HP.out.symm, rfl⟩
end Go.Proofs.YtpiafgdbjpfcaaaDoor
