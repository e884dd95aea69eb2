/- The contract of crc.Open over this translation. Conditions: texts of at most ninety thousand bytes, and the table that the program's text lays. -/
import Derived.Test.YtiflieaemgamkaaGreatDoorCt
import Derived.Deep.QuietTactic
import Derived.BigQuiet
import Derived.Lib.QuietBelow
import Derived.Lib.Split
namespace Go.Proofs.YtiflieaemgamkaaGreatDoor
open Go.RowKit Cm

theorem below_any {w w' : World} (h : ∃ p : Regrown, w' = Sort.grow (redrawn w p.d) p.os) : Below w.heap.size w w' := by
  obtain ⟨p, rfl⟩ := h
  exact below_regrown w p.d p.os
theorem ext_dataC (s : ByteArray) (p : Nat) : (s.extract p s.size).data.toList = s.data.toList.drop p := by
  rw [ByteArray.data_extract, Array.toList_extract]
  simp only [List.extract]
  exact List.take_of_length_le (by simp)

/-- is a text's end its sum's? -/
def sealed (t : ByteArray) : Bool := decide (4 ≤ t.size) && (t.data.toList.drop (t.size - 4) == tl (on 0 (t.data.toList.take (t.size - 4))))
def opened (t : ByteArray) : Value := .tuple #[.string (if sealed t then t.extract 0 (t.size - 4) else ⟨#[]⟩), .bool (sealed t)]

set_option maxHeartbeats 800000 in
set_option maxRecDepth 100000 in
theorem open_any (t : ByteArray) (w : World) (hT : Tab w) (hs : t.size ≤ 90000) :
    Calls Tryz.prog 200 #[.string t] w fun e w' => e = .returned (opened t) ∧ Below w.heap.size w w' := by
  have HT := Lib.hid hT
  clear hT
  by_cases h4 : (t.size : Int) < 4
  · have hse : sealed t = false := by
      unfold sealed; rw [decide_eq_false (by omega)]; rfl
    have hfin : opened t = .tuple #[.string ⟨#[]⟩, .bool false] := by unfold opened; rw [hse]; rfl
    have HF := Lib.hid hfin
    clear hfin hse
    have hd : decide ((t.size : Int) - 4 < 0) = true := by simp; omega
    have hd2 : decide ((t.size : Int) < 4) = true := by simp; omega
    have hd3 : decide (t.size < 4) = true := by simp; omega
    go_enter Tryz.func200, Tryz.ntmps200
    go_wp2_with fail
    refine wp_region_quiet_below (by kernel_rfl) (by kernel_rfl) ?_
    repeat (any_goals (first | go_big_quiet_step (fail) | quiet_step (fail)))
    refine wpQuiet_nil ?_
    intro w2 hw'
    have hb2 := below_any hw'
    clear hw'
    go_wp2
    go_ret2
    exact ⟨congrArg Ending.returned HF.out.symm, hb2⟩
  · have hle : t.size - 4 ≤ 90000 := by omega
    have hes : (t.extract 0 (t.size - 4)).size ≤ 100000 := by rw [ByteArray.size_extract]; omega
    have hed : (t.extract 0 (t.size - 4)).data.toList = t.data.toList.take (t.size - 4) := Lib.extract_from_zero _ _
    have hee : (t.extract (t.size - 4) t.size).toList = t.data.toList.drop (t.size - 4) := by rw [ByteArray.toList_eq]; exact ext_dataC _ _
    have HED := Lib.hid hed
    have HEE := Lib.hid hee
    clear hed hee
    have hd : decide ((t.size : Int) - 4 < 0) = false := by simp; omega
    have hd2 : decide ((t.size : Int) < 4) = false := by simp; omega
    have hd3 : decide (t.size < 4) = false := by simp; omega
    have g1 : IntKind.i64.wrap ((t.size : Int) - 4) = (t.size : Int) - 4 := IntWalk.i64_in _ (by omega)
    have g2 : 0 ≤ (t.size : Int) - 4 := by omega
    have g3 : ((t.size : Int) - 4).toNat = t.size - 4 := by omega
    have g4 : (t.size : Int) - 4 ≤ t.size := by omega
    go_enter Tryz.func200, Tryz.ntmps200
    go_wp2_with fail
    refine wp_region_quiet_below (by kernel_rfl) (by kernel_rfl) ?_
    repeat (any_goals (first | go_big_quiet_step ((go_at_call 161; exact Calls.regrown_of (tail_any _ _ (HT.out.later (below_regrown _ _ _)) hes))) | quiet_step ((go_at_call 161; exact Calls.regrown_of (tail_any _ _ (HT.out.later (below_regrown _ _ _)) hes)))))
    refine wpQuiet_nil ?_
    intro w2 hw'
    have hb2 := below_any hw'
    clear hw'
    go_wp2
    · have hq : (!(t.extract (t.size - 4) t.size).toList == tl (on 0 (List.take (t.size - 4) t.data.toList))) = true := by assumption
      rw [HEE.out] at hq
      have hse : sealed t = false := by
        unfold sealed; rw [Bool.and_eq_false_iff]; right; simpa using hq
      have hfin : opened t = .tuple #[.string ⟨#[]⟩, .bool false] := by unfold opened; rw [hse]; rfl
      go_ret2
      exact ⟨congrArg Ending.returned hfin.symm, hb2⟩
    · have hq : (!(t.extract (t.size - 4) t.size).toList == tl (on 0 (List.take (t.size - 4) t.data.toList))) = false := by assumption
      rw [HEE.out] at hq
      have hse : sealed t = true := by
        unfold sealed; rw [decide_eq_true (by omega), Bool.true_and]; simpa using hq
      have hfin : opened t = .tuple #[.string (t.extract 0 (t.size - 4)), .bool true] := by unfold opened; rw [hse]; rfl
      go_ret2
      exact ⟨congrArg Ending.returned hfin.symm, hb2⟩
end Go.Proofs.YtiflieaemgamkaaGreatDoor
