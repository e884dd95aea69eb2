/- Words on refs; refs.Compare, and the document's Less, over this translation. No condition. -/
import Derived.Test.YtbjngbacnkmjhaaIa
namespace Go.Proofs.Ytbjngbacnkmjhaa
open Go.RowKit Vi

abbrev Rf := Int × ByteArray × ByteArray
def rfC (f : Rf) : List Value := [.int .i64 f.1, .string f.2.1, .string f.2.2]
theorem rfC_len (f : Rf) : (rfC f).length = 3 := rfl
theorem rfC_one (f : Rf) : ∀ u ∈ rfC f, u.oneCell' = true := by
  intro u hu
  simp only [rfC, List.mem_cons, List.not_mem_nil, or_false] at hu
  rcases hu with h | h | h <;> (subst h; rfl)
def cmpR (a b : Rf) : Int := orL [cmpI a.1 b.1, cmpS a.2.1 b.2.1]
def lessR (a b : Rf) : Bool := if a.1 ≠ b.1 then decide (a.1 < b.1) else Op.bytesLess a.2.1.toList b.2.1.toList
def sameK (a b : Rf) : Bool := decide (a.1 = b.1) && (a.2.1.toList == b.2.1.toList)
theorem cmpR_abs (a b : Rf) : -1 ≤ cmpR a b ∧ cmpR a b ≤ 1 := by
  unfold cmpR orL orL orL
  split
  · unfold cmpI; split <;> (try split) <;> omega
  · split
    · unfold cmpS; split <;> (try split) <;> omega
    · omega
theorem cmpR_cases (a b : Rf) : (lessR a b = true ∧ lessR b a = false ∧ cmpR a b = -1 ∧ sameK a b = false) ∨ (lessR a b = false ∧ lessR b a = true ∧ cmpR a b = 1 ∧ sameK a b = false) ∨ (lessR a b = false ∧ lessR b a = false ∧ cmpR a b = 0 ∧ sameK a b = true) := by
  obtain ⟨a1, a2, a3⟩ := a
  obtain ⟨b1, b2, b3⟩ := b
  unfold cmpR lessR sameK orL orL orL cmpI cmpS
  simp only
  by_cases h1 : a1 < b1
  · left
    have h2 : ¬ b1 < a1 := by omega
    have h3 : a1 ≠ b1 := by omega
    have h4 : b1 ≠ a1 := by omega
    rw [if_pos h3, if_pos h4, if_pos h1, decide_eq_true h1, decide_eq_false h2, decide_eq_false h3]
    exact ⟨rfl, rfl, rfl, rfl⟩
  · by_cases h2 : b1 < a1
    · right; left
      have h3 : a1 ≠ b1 := by omega
      have h4 : b1 ≠ a1 := by omega
      rw [if_pos h3, if_pos h4, if_neg h1, if_pos h2, decide_eq_true h2, decide_eq_false h1, decide_eq_false h3]
      exact ⟨rfl, rfl, rfl, rfl⟩
    · have h3 : a1 = b1 := by omega
      subst h3
      rw [if_neg (fun q => q rfl), if_neg (fun q => q rfl), if_neg h1, if_neg h1, decide_eq_true rfl, Bool.true_and]
      cases k1 : Op.bytesLess a2.toList b2.toList with
      | true =>
        left
        have k2 : Op.bytesLess b2.toList a2.toList = false := by
          cases q : Op.bytesLess b2.toList a2.toList with
          | false => rfl
          | true => have := bl_trans _ _ _ k1 q; rw [bl_irrefl] at this; cases this
        refine ⟨rfl, k2, by simp, ?_⟩
        rw [beq_eq_false_iff_ne]; intro e; rw [e, bl_irrefl] at k1; cases k1
      | false =>
        cases k2 : Op.bytesLess b2.toList a2.toList with
        | true =>
          right; left
          refine ⟨rfl, rfl, by simp, ?_⟩
          rw [beq_eq_false_iff_ne]; intro e; rw [e, bl_irrefl] at k2; cases k2
        | false =>
          right; right
          exact ⟨rfl, rfl, by simp, by rw [bl_total _ _ k1 k2]; simp⟩
theorem lessR_irrefl (a : Rf) : lessR a a = false := by
  rcases cmpR_cases a a with ⟨h1, h2, _⟩ | ⟨h1, h2, _⟩ | ⟨h1, _⟩
  · rw [h1] at h2; cases h2
  · exact h1
  · exact h1
theorem lessR_trans {a b c : Rf} (h1 : lessR a b = true) (h2 : lessR b c = true) : lessR a c = true := by
  obtain ⟨a1, a2, a3⟩ := a
  obtain ⟨b1, b2, b3⟩ := b
  obtain ⟨c1, c2, c3⟩ := c
  unfold lessR at *
  simp only at *
  by_cases e1 : a1 = b1
  · subst e1
    rw [if_neg (fun q => q rfl)] at h1
    by_cases e2 : a1 = c1
    · subst e2
      rw [if_neg (fun q => q rfl)] at h2 ⊢
      exact bl_trans _ _ _ h1 h2
    · rw [if_pos e2] at h2 ⊢; exact h2
  · rw [if_pos e1, decide_eq_true_iff] at h1
    by_cases e2 : b1 = c1
    · subst e2
      rw [if_pos e1, decide_eq_true_iff]; exact h1
    · rw [if_pos e2, decide_eq_true_iff] at h2
      rw [if_pos (by omega), decide_eq_true_iff]; omega
theorem lessR_same {a b x : Rf} (h : sameK a x = true) (h2 : lessR a b = true) : lessR x b = true := by
  obtain ⟨a1, a2, a3⟩ := a
  obtain ⟨b1, b2, b3⟩ := b
  obtain ⟨x1, x2, x3⟩ := x
  unfold sameK at h
  rw [Bool.and_eq_true, decide_eq_true_iff, beq_iff_eq] at h
  simp only at h
  unfold lessR at *
  simp only at *
  rw [← h.1, ← h.2]; exact h2
theorem cmpR_less {a b : Rf} (h : lessR a b = true) : cmpR a b = -1 := by
  rcases cmpR_cases a b with ⟨_, _, h3, _⟩ | ⟨h1, _⟩ | ⟨h1, _⟩
  · exact h3
  · rw [h1] at h; cases h
  · rw [h1] at h; cases h
theorem cmpR_not {a b : Rf} (h : lessR a b = false) : 0 ≤ cmpR a b := by
  rcases cmpR_cases a b with ⟨h1, _⟩ | ⟨_, _, h3, _⟩ | ⟨_, _, h3, _⟩
  · rw [h1] at h; cases h
  · omega
  · omega
theorem cmpR_eq (a b : Rf) : (cmpR a b == 0) = sameK a b := by
  rcases cmpR_cases a b with ⟨_, _, h3, h4⟩ | ⟨_, _, h3, h4⟩ | ⟨_, _, h3, h4⟩ <;> rw [h3, h4] <;> rfl
set_option maxRecDepth 100000 in
set_option maxHeartbeats 2000000 in
theorem rfcmp_any (a1 : Int) (a2 a3 : ByteArray) (b1 : Int) (b2 b3 : ByteArray) (w : World) :
    Calls Try.prog 57 #[.agg #[.int .i64 a1, .string a2, .string a3], .agg #[.int .i64 b1, .string b2, .string b3]] w fun e w' => e = .returned (.int .i64 (cmpR (a1, a2, a3) (b1, b2, b3))) ∧ Below w.heap.size w w' := by
  have HV := Lib.hid (show cmpR (a1, a2, a3) (b1, b2, b3) = orL [cmpI a1 b1, cmpS a2 b2] from rfl)
  have HX := Lib.hid (fun W : World => cmpI_any a1 b1 W)
  have HY := Lib.hid (fun W : World => cmpS_any a2 b2 W)
  rw [HV.out]
  clear HV
  generalize cmpI a1 b1 = x at *
  generalize cmpS a2 b2 = y at *
  have HB1 := Lib.hid (Below.refl w.heap.size w)
  go_enter Try.func57, Try.ntmps57
  have HF2 := Lib.hid (blk_new w (.cells #[.int .i64 a1, .string a2, .string a3] 97 (0, 0)))
  have HB3 := Lib.hid (HB1.out.alloc HB1.out.size (.cells #[.int .i64 a1, .string a2, .string a3] 97 (0, 0)))
  clear HB1
  have HF4 := Lib.hid (blk_alloc HF2.out (.cells #[.int .i64 b1, .string b2, .string b3] 97 (0, 0)))
  clear HF2
  have HF5 : Hid (((w.alloc (.cells #[.int .i64 a1, .string a2, .string a3] 97 (0, 0))).alloc (.cells #[.int .i64 b1, .string b2, .string b3] 97 (0, 0))).heap[w.heap.size + 1]? = some (.cells #[.int .i64 b1, .string b2, .string b3] 97 (0, 0))) := Lib.hid (blk_newN (W := (w.alloc (.cells #[.int .i64 a1, .string a2, .string a3] 97 (0, 0)))) (o := (.cells #[.int .i64 b1, .string b2, .string b3] 97 (0, 0))) (by simp))
  have HB6 := Lib.hid (HB3.out.alloc (by have := HB3.out.size; simp at this ⊢ <;> omega) (.cells #[.int .i64 b1, .string b2, .string b3] 97 (0, 0)))
  clear HB3
  have hc7 : ((w.alloc (.cells #[.int .i64 a1, .string a2, .string a3] 97 (0, 0))).alloc (.cells #[.int .i64 b1, .string b2, .string b3] 97 (0, 0))).cell? ⟨w.heap.size, 0, none⟩ = some (.int .i64 a1) := by rw [cell_of_row _ _ _ _ _ _ HF4.out]; rfl
  have hc8 : ((w.alloc (.cells #[.int .i64 a1, .string a2, .string a3] 97 (0, 0))).alloc (.cells #[.int .i64 b1, .string b2, .string b3] 97 (0, 0))).cell? ⟨w.heap.size, 1, none⟩ = some (.string a2) := by rw [cell_of_row _ _ _ _ _ _ HF4.out]; rfl
  have hc9 : ((w.alloc (.cells #[.int .i64 a1, .string a2, .string a3] 97 (0, 0))).alloc (.cells #[.int .i64 b1, .string b2, .string b3] 97 (0, 0))).cell? ⟨w.heap.size + 1, 0, none⟩ = some (.int .i64 b1) := by rw [cell_of_row _ _ _ _ _ _ HF5.out]; rfl
  have hc10 : ((w.alloc (.cells #[.int .i64 a1, .string a2, .string a3] 97 (0, 0))).alloc (.cells #[.int .i64 b1, .string b2, .string b3] 97 (0, 0))).cell? ⟨w.heap.size + 1, 1, none⟩ = some (.string b2) := by rw [cell_of_row _ _ _ _ _ _ HF5.out]; rfl
  go_wp2_with fail
  have hr11 := fun d os => cell_regrown hc7 d os
  have hr12 := fun d os => cell_regrown hc8 d os
  have hr13 := fun d os => cell_regrown hc9 d os
  have hr14 := fun d os => cell_regrown hc10 d os
  refine wp_region_quiet_tail 10 (by kernel_rfl) (by kernel_rfl) ?_
  simp only [List.take_succ_cons, List.take_zero, List.drop_succ_cons, List.drop_zero]
  repeat (any_goals (first | go_big_quiet_step ((first | (go_at_call 144; with_reducible exact Calls.regrown_of (of_same (HX.out _))) | (go_at_call 145; with_reducible exact Calls.regrown_of (of_same (HY.out _))))) | quiet_step ((first | (go_at_call 144; with_reducible exact Calls.regrown_of (of_same (HX.out _))) | (go_at_call 145; with_reducible exact Calls.regrown_of (of_same (HY.out _)))))))
  refine wpQuiet_nil ?_
  intro w1 hw1
  have hb1 := below_anyY hw1
  clear hw1 hr11 hr12 hr13 hr14
  clear hc7 hc8 hc9 hc10
  have HF15 := Lib.hid (blk_below HF4.out hb1)
  have HF16 := Lib.hid (blk_below HF5.out hb1)
  have HB17 := Lib.hid (HB6.out.trans (hb1.mono HB6.out.size))
  clear hb1 HB6 HF4 HF5
  have HO := Lib.hid (blk_new w1 (.cells #[.int .i64 x, .int .i64 y] 3 (0, 0)))
  have HB9 := Lib.hid (HB17.out.alloc HB17.out.size (.cells #[.int .i64 x, .int .i64 y] 3 (0, 0)))
  go_wp2_with fail
  refine (orInt_any _ 0 2 2 [x, y] _ (rd_blk (f := ieC) (s := 1) (fun _ => rfl) [x, y] HO.out rfl) (by omega)).mono ?_
  rintro e w' ⟨rfl, rfl⟩
  go_wp2_with fail
  go_ret
  exact ⟨rfl, HB9.out⟩
set_option maxRecDepth 100000 in
set_option maxHeartbeats 2000000 in
theorem rfless_any (a1 : Int) (a2 a3 : ByteArray) (b1 : Int) (b2 b3 : ByteArray) (w : World) :
    Calls Try.prog 56 #[.agg #[.int .i64 a1, .string a2, .string a3], .agg #[.int .i64 b1, .string b2, .string b3]] w fun e w' => e = .returned (.bool (lessR (a1, a2, a3) (b1, b2, b3))) ∧ Below w.heap.size w w' := by
  by_cases h1 : a1 = b1
  · have e1 : (a1 != b1) = false := by simpa using h1
    have HV := Lib.hid (show lessR (a1, a2, a3) (b1, b2, b3) = Op.bytesLess a2.toList b2.toList by unfold lessR; rw [if_neg (fun q => q h1)])
    clear h1
    have HB1 := Lib.hid (Below.refl w.heap.size w)
    go_enter Try.func56, Try.ntmps56
    have HF2 := Lib.hid (blk_new w (.cells #[.int .i64 a1, .string a2, .string a3] 97 (0, 0)))
    have HB3 := Lib.hid (HB1.out.alloc HB1.out.size (.cells #[.int .i64 a1, .string a2, .string a3] 97 (0, 0)))
    clear HB1
    have HF4 := Lib.hid (blk_alloc HF2.out (.cells #[.int .i64 b1, .string b2, .string b3] 97 (0, 0)))
    clear HF2
    have HF5 : Hid (((w.alloc (.cells #[.int .i64 a1, .string a2, .string a3] 97 (0, 0))).alloc (.cells #[.int .i64 b1, .string b2, .string b3] 97 (0, 0))).heap[w.heap.size + 1]? = some (.cells #[.int .i64 b1, .string b2, .string b3] 97 (0, 0))) := Lib.hid (blk_newN (W := (w.alloc (.cells #[.int .i64 a1, .string a2, .string a3] 97 (0, 0)))) (o := (.cells #[.int .i64 b1, .string b2, .string b3] 97 (0, 0))) (by simp))
    have HB6 := Lib.hid (HB3.out.alloc (by have := HB3.out.size; simp at this ⊢ <;> omega) (.cells #[.int .i64 b1, .string b2, .string b3] 97 (0, 0)))
    clear HB3
    have hc7 : ((w.alloc (.cells #[.int .i64 a1, .string a2, .string a3] 97 (0, 0))).alloc (.cells #[.int .i64 b1, .string b2, .string b3] 97 (0, 0))).cell? ⟨w.heap.size, 0, none⟩ = some (.int .i64 a1) := by rw [cell_of_row _ _ _ _ _ _ HF4.out]; rfl
    have hc8 : ((w.alloc (.cells #[.int .i64 a1, .string a2, .string a3] 97 (0, 0))).alloc (.cells #[.int .i64 b1, .string b2, .string b3] 97 (0, 0))).cell? ⟨w.heap.size, 1, none⟩ = some (.string a2) := by rw [cell_of_row _ _ _ _ _ _ HF4.out]; rfl
    have hc9 : ((w.alloc (.cells #[.int .i64 a1, .string a2, .string a3] 97 (0, 0))).alloc (.cells #[.int .i64 b1, .string b2, .string b3] 97 (0, 0))).cell? ⟨w.heap.size + 1, 0, none⟩ = some (.int .i64 b1) := by rw [cell_of_row _ _ _ _ _ _ HF5.out]; rfl
    have hc10 : ((w.alloc (.cells #[.int .i64 a1, .string a2, .string a3] 97 (0, 0))).alloc (.cells #[.int .i64 b1, .string b2, .string b3] 97 (0, 0))).cell? ⟨w.heap.size + 1, 1, none⟩ = some (.string b2) := by rw [cell_of_row _ _ _ _ _ _ HF5.out]; rfl
    go_wp2_with fail
    go_ret
    exact ⟨by first | (rw [HV.out]; done) | (rw [HV.out]; rfl), HB6.out⟩
  · have e1 : (a1 != b1) = true := by simpa using h1
    have HV := Lib.hid (show lessR (a1, a2, a3) (b1, b2, b3) = decide (a1 < b1) by unfold lessR; rw [if_pos h1])
    clear h1
    have HB1 := Lib.hid (Below.refl w.heap.size w)
    go_enter Try.func56, Try.ntmps56
    have HF2 := Lib.hid (blk_new w (.cells #[.int .i64 a1, .string a2, .string a3] 97 (0, 0)))
    have HB3 := Lib.hid (HB1.out.alloc HB1.out.size (.cells #[.int .i64 a1, .string a2, .string a3] 97 (0, 0)))
    clear HB1
    have HF4 := Lib.hid (blk_alloc HF2.out (.cells #[.int .i64 b1, .string b2, .string b3] 97 (0, 0)))
    clear HF2
    have HF5 : Hid (((w.alloc (.cells #[.int .i64 a1, .string a2, .string a3] 97 (0, 0))).alloc (.cells #[.int .i64 b1, .string b2, .string b3] 97 (0, 0))).heap[w.heap.size + 1]? = some (.cells #[.int .i64 b1, .string b2, .string b3] 97 (0, 0))) := Lib.hid (blk_newN (W := (w.alloc (.cells #[.int .i64 a1, .string a2, .string a3] 97 (0, 0)))) (o := (.cells #[.int .i64 b1, .string b2, .string b3] 97 (0, 0))) (by simp))
    have HB6 := Lib.hid (HB3.out.alloc (by have := HB3.out.size; simp at this ⊢ <;> omega) (.cells #[.int .i64 b1, .string b2, .string b3] 97 (0, 0)))
    clear HB3
    have hc7 : ((w.alloc (.cells #[.int .i64 a1, .string a2, .string a3] 97 (0, 0))).alloc (.cells #[.int .i64 b1, .string b2, .string b3] 97 (0, 0))).cell? ⟨w.heap.size, 0, none⟩ = some (.int .i64 a1) := by rw [cell_of_row _ _ _ _ _ _ HF4.out]; rfl
    have hc8 : ((w.alloc (.cells #[.int .i64 a1, .string a2, .string a3] 97 (0, 0))).alloc (.cells #[.int .i64 b1, .string b2, .string b3] 97 (0, 0))).cell? ⟨w.heap.size, 1, none⟩ = some (.string a2) := by rw [cell_of_row _ _ _ _ _ _ HF4.out]; rfl
    have hc9 : ((w.alloc (.cells #[.int .i64 a1, .string a2, .string a3] 97 (0, 0))).alloc (.cells #[.int .i64 b1, .string b2, .string b3] 97 (0, 0))).cell? ⟨w.heap.size + 1, 0, none⟩ = some (.int .i64 b1) := by rw [cell_of_row _ _ _ _ _ _ HF5.out]; rfl
    have hc10 : ((w.alloc (.cells #[.int .i64 a1, .string a2, .string a3] 97 (0, 0))).alloc (.cells #[.int .i64 b1, .string b2, .string b3] 97 (0, 0))).cell? ⟨w.heap.size + 1, 1, none⟩ = some (.string b2) := by rw [cell_of_row _ _ _ _ _ _ HF5.out]; rfl
    go_wp2_with fail
    go_ret
    exact ⟨by first | (rw [HV.out]; done) | (rw [HV.out]; rfl), HB6.out⟩
end Go.Proofs.Ytbjngbacnkmjhaa
