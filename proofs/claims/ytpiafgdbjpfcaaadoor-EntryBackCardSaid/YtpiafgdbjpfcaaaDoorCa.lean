/- The document's own Open of layer 2 and the chapter's example over this translation. Conditions: texts of at most ninety thousand bytes, and the table that the program's text lays. -/
import Derived.Test.YtpiafgdbjpfcaaaDoorCo
import Derived.Test.YtpiafgdbjpfcaaaDoorCr
namespace Go.Proofs.YtpiafgdbjpfcaaaDoor
open Go.RowKit Cm

set_option maxHeartbeats 800000 in
set_option maxRecDepth 100000 in
theorem refOpen_any (t : ByteArray) (w : World) (hs : t.size ≤ 90000) :
    Calls Tryd.prog 57 #[.string t] w fun e w' => e = .returned (opened t) ∧ Below w.heap.size w w' := by
  by_cases h4 : (t.size : Int) < 4
  · have hse : sealed t = false := by
      unfold sealed; rw [decide_eq_false (by omega)]; rfl
    have hfin : opened t = .tuple #[.string ⟨#[]⟩, .bool false] := by unfold opened; rw [hse]; rfl
    have HF := Lib.hid hfin
    clear hfin hse
    have hd : decide ((t.size : Int) - 4 < 0) = true := by simp; omega
    have hd2 : decide ((t.size : Int) < 4) = true := by simp; omega
    have hd3 : decide (t.size < 4) = true := by simp; omega
    go_enter Tryd.func57, Tryd.ntmps57
    go_wp2_with fail
    refine wp_region_quiet_below (by kernel_rfl) (by kernel_rfl) ?_
    repeat (any_goals (first | go_big_quiet_step (fail) | quiet_step (fail)))
    refine wpQuiet_nil ?_
    intro w2 hw'
    have hb2 := below_any hw'
    clear hw'
    go_wp2
    go_ret2
    exact ⟨congrArg Ending.returned HF.out.symm, hb2⟩
  · have hes : (t.extract 0 (t.size - 4)).size ≤ 100000 := by rw [ByteArray.size_extract]; omega
    have hed : (t.extract 0 (t.size - 4)).data.toList = t.data.toList.take (t.size - 4) := Lib.extract_from_zero _ _
    have hee : (t.extract (t.size - 4) t.size).toList = t.data.toList.drop (t.size - 4) := by rw [ByteArray.toList_eq]; exact ext_dataC _ _
    have HED := Lib.hid hed
    have HEE := Lib.hid hee
    have hon := on_lt 0 (t.extract 0 (t.size - 4)).data.toList
    clear hed hee
    have hd : decide ((t.size : Int) - 4 < 0) = false := by simp; omega
    have hd2 : decide ((t.size : Int) < 4) = false := by simp; omega
    have hd3 : decide (t.size < 4) = false := by simp; omega
    have g1 : IntKind.i64.wrap ((t.size : Int) - 4) = (t.size : Int) - 4 := IntWalk.i64_in _ (by omega)
    have g2 : 0 ≤ (t.size : Int) - 4 := by omega
    have g3 : ((t.size : Int) - 4).toNat = t.size - 4 := by omega
    have g4 : (t.size : Int) - 4 ≤ t.size := by omega
    go_enter Tryd.func57, Tryd.ntmps57
    go_wp2_with fail
    refine wp_region_quiet_below (by kernel_rfl) (by kernel_rfl) ?_
    repeat (any_goals (first | go_big_quiet_step (first | (go_at_call 84; exact Calls.regrown_of (refOn_any 0 _ _ (by omega) hes)) | (go_at_call 83; exact Calls.regrown_of (refTail_any _ _ (on_lt _ _)))) | quiet_step (first | (go_at_call 84; exact Calls.regrown_of (refOn_any 0 _ _ (by omega) hes)) | (go_at_call 83; exact Calls.regrown_of (refTail_any _ _ (on_lt _ _))))))
    refine wpQuiet_nil ?_
    intro w2 hw'
    have hb2 := below_any hw'
    clear hw'
    go_wp2
    · have hq : (!tl (on 0 (List.take (t.size - 4) t.data.toList)) == (t.extract (t.size - 4) t.size).toList) = true := by assumption
      rw [HEE.out] at hq
      have hse : sealed t = false := by
        unfold sealed; rw [Bool.and_eq_false_iff]; right; rw [beq_eq_false_iff_ne]; intro e; rw [e] at hq; simp at hq
      have hfin : opened t = .tuple #[.string ⟨#[]⟩, .bool false] := by unfold opened; rw [hse]; rfl
      go_ret2
      exact ⟨congrArg Ending.returned hfin.symm, hb2⟩
    · have hq : (!tl (on 0 (List.take (t.size - 4) t.data.toList)) == (t.extract (t.size - 4) t.size).toList) = false := by assumption
      rw [HEE.out] at hq
      have hq2 : tl (on 0 (List.take (t.size - 4) t.data.toList)) = t.data.toList.drop (t.size - 4) := by simpa using hq
      have hse : sealed t = true := by
        unfold sealed; rw [decide_eq_true (by omega), Bool.true_and, hq2]; simp
      have hfin : opened t = .tuple #[.string (t.extract 0 (t.size - 4)), .bool true] := by unfold opened; rw [hse]; rfl
      go_ret2
      exact ⟨congrArg Ending.returned hfin.symm, hb2⟩

theorem aw_seal : (ByteArray.mk #[97, 98] ++ ByteArray.mk (tl (on 0 (ByteArray.mk #[97, 98]).data.toList)).toArray) = ByteArray.mk #[97, 98, 109, 72, 131, 158] := by decide +kernel
theorem aw_open : opened (ByteArray.mk #[97, 98, 109, 72, 131, 158]) = .tuple #[.string ⟨#[97, 98]⟩, .bool true] := by
  have h : sealed (ByteArray.mk #[97, 98, 109, 72, 131, 158]) = true := by decide +kernel
  unfold opened; rw [h]; rfl
theorem aw_sum : on 0 (flat [ByteArray.mk #[49, 50, 51, 52, 53, 54, 55, 56, 57]]) = 3421780262 := by decide +kernel

end Go.Proofs.YtpiafgdbjpfcaaaDoor
