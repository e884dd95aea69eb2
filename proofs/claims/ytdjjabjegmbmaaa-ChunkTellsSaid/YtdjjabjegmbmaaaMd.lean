/- few of layer 19, and the document's Same of two chunks that are the same, over this translation. Condition: slices of at most 2 to the 62nd. -/
import Derived.Test.YtdjjabjegmbmaaaMb
import Derived.Deep.DeepCutAuto
namespace Go.Proofs.Ytdjjabjegmbmaaa
open Go.RowKit Vi

def FewC (en cn : Nat) (w : World) (e : Ending) (w' : World) : Prop := ∃ b : Bool, e = .returned (.bool b) ∧ (b = true → en ≤ 20 ∧ cn ≤ 20) ∧ Below w.heap.size w w'
set_option maxRecDepth 100000 in
set_option maxHeartbeats 4000000 in
theorem few19_any (lv : Int) (ea ca : Option Addr) (en ec cn cc : Nat) (es : List En) (cs : List Int) (w : World) (h : ChR w ea ca en cn es cs) (hn : (en : Int) ≤ 9223372036854775807) (hm : (cn : Int) ≤ 9223372036854775807) :
    Calls Try.prog 17 #[.agg #[.int .i64 lv, .slice ea en ec, .slice ca cn cc]] w (FewC en cn w) := by
  have H := Lib.hid h
  clear h
  have HB1 := Lib.hid (Below.refl w.heap.size w)
  go_enter Try.func17, Try.ntmps17
  have HF2 := Lib.hid (blk_new w (.cells #[.int .i64 lv, .slice ea en ec, .slice ca cn cc] 26 (0, 0)))
  have HB3 := Lib.hid (HB1.out.alloc HB1.out.size (.cells #[.int .i64 lv, .slice ea en ec, .slice ca cn cc] 26 (0, 0)))
  clear HB1
  have hc4 : (w.alloc (.cells #[.int .i64 lv, .slice ea en ec, .slice ca cn cc] 26 (0, 0))).cell? ⟨w.heap.size, 0, none⟩ = some (.int .i64 lv) := by rw [cell_of_row _ _ _ _ _ _ HF2.out]; rfl
  have hc5 : (w.alloc (.cells #[.int .i64 lv, .slice ea en ec, .slice ca cn cc] 26 (0, 0))).cell? ⟨w.heap.size, 1, none⟩ = some (.slice ea en ec) := by rw [cell_of_row _ _ _ _ _ _ HF2.out]; rfl
  have hc6 : (w.alloc (.cells #[.int .i64 lv, .slice ea en ec, .slice ca cn cc] 26 (0, 0))).cell? ⟨w.heap.size, 2, none⟩ = some (.slice ca cn cc) := by rw [cell_of_row _ _ _ _ _ _ HF2.out]; rfl
  go_wp2_with fail
  clear hc4 hc5 hc6
  go_loopw [3, 4] (fun s i wr => ∃ k m : Nat, s = .int .i64 (m : Int) ∧ i = .int .i64 (k : Int) ∧ k ≤ en ∧ k ≤ 21 ∧ m ≤ 20000 * k ∧ wr.heap[w.heap.size]? = some (.cells #[.int .i64 lv, .slice ea en ec, .slice ca cn cc] 26 (0, 0)) ∧ Below w.heap.size w wr) (fun _ i _ => en - (intOf i).toNat)
  case atStart => exact ⟨0, 0, rfl, rfl, Nat.zero_le _, by omega, by omega, HF2.out, HB3.out⟩
  case round =>
    obtain ⟨k, m, rfl, rfl, hk, hk1, hmm, hbx, hb⟩ := hrel
    have HC := Lib.hid hbx
    have HB := Lib.hid hb
    have hCw := lt_of_block hbx
    clear hbx hb
    by_cases hlt : k < en ∧ k ≤ 20
    · obtain ⟨hlt, h20⟩ := hlt
      have hd1 : decide ((k : Int) < (en : Int)) = true := decide_eq_true (by omega)
      have hd2 : decide ((k : Int) ≤ 20) = true := decide_eq_true (by omega)
      obtain ⟨b, off, hl, rfl, hbb, hc⟩ := (H.out.below HB.out).e.at hlt
      obtain ⟨x, hx⟩ : ∃ x, es[k] = x := ⟨_, rfl⟩
      rw [hx] at hc
      obtain ⟨s, v⟩ := x
      have hc0a := hc 0 _ rfl
      have hc1a := hc 1 _ rfl
      rw [Nat.add_zero] at hc0a
      clear hc hx
      have hi0 : (0 : Int) ≤ (k : Int) := by omega
      by_cases hs1 : (10000 : Int) < (s.size : Int)
      · by_cases hs2 : (10000 : Int) < (v.size : Int)
        · have hw1 : IntKind.i64.wrap (10000 + 10000) = 10000 + 10000 := IntWalk.i64_in _ (by omega)
          have hw2 : IntKind.i64.wrap ((m : Int) + (10000 + 10000)) = (m : Int) + (10000 + 10000) := IntWalk.i64_in _ (by omega)
          have hc101 : wr.cell? ⟨w.heap.size, 0, none⟩ = some (.int .i64 lv) := by rw [cell_of_row _ _ _ _ _ _ HC.out]; rfl
          have hc102 : wr.cell? ⟨w.heap.size, 1, none⟩ = some (.slice (some ⟨b, off, none⟩) en ec) := by rw [cell_of_row _ _ _ _ _ _ HC.out]; rfl
          have hc103 : wr.cell? ⟨w.heap.size, 2, none⟩ = some (.slice ca cn cc) := by rw [cell_of_row _ _ _ _ _ _ HC.out]; rfl
          go_wp2_with fail
          have hr104 := fun d os => cell_regrown hc101 d os
          have hr105 := fun d os => cell_regrown hc102 d os
          have hr106 := fun d os => cell_regrown hc103 d os
          have hr107 := fun d os => cell_regrown hc0a d os
          have hr108 := fun d os => cell_regrown hc1a d os
          refine wp_region_quiet_below (by kernel_rfl) (by kernel_rfl) ?_
          repeat (any_goals (first | go_big_quiet_step (fail) | quiet_step (fail) | (refine wpQuiet_step (fun K hK => ?_); go_simp; refine hK _ ?_; clear hK K)))
          refine wpQuiet_nil ?_
          intro w11 hw11
          have hb11 := below_anyY hw11
          clear hw11 hr104 hr105 hr106 hr107 hr108
          clear hc101 hc102 hc103 hc0a hc1a
          have HC2 := Lib.hid (blk_below HC.out hb11)
          have HB2 := Lib.hid (HB.out.trans (hb11.mono HB.out.size))
          clear hb11
          go_wp2_with fail
          go_roundw
          case rel => exact ⟨k + 1, m + (10000 + 10000), by go_num, by go_num, by omega, by omega, by omega, HC2.out, HB2.out⟩
          case measure => simp [intOf] <;> omega
        · have hw1 : IntKind.i64.wrap (10000 + (v.size : Int)) = 10000 + (v.size : Int) := IntWalk.i64_in _ (by omega)
          have hw2 : IntKind.i64.wrap ((m : Int) + (10000 + (v.size : Int))) = (m : Int) + (10000 + (v.size : Int)) := IntWalk.i64_in _ (by omega)
          have hc101 : wr.cell? ⟨w.heap.size, 0, none⟩ = some (.int .i64 lv) := by rw [cell_of_row _ _ _ _ _ _ HC.out]; rfl
          have hc102 : wr.cell? ⟨w.heap.size, 1, none⟩ = some (.slice (some ⟨b, off, none⟩) en ec) := by rw [cell_of_row _ _ _ _ _ _ HC.out]; rfl
          have hc103 : wr.cell? ⟨w.heap.size, 2, none⟩ = some (.slice ca cn cc) := by rw [cell_of_row _ _ _ _ _ _ HC.out]; rfl
          go_wp2_with fail
          have hr104 := fun d os => cell_regrown hc101 d os
          have hr105 := fun d os => cell_regrown hc102 d os
          have hr106 := fun d os => cell_regrown hc103 d os
          have hr107 := fun d os => cell_regrown hc0a d os
          have hr108 := fun d os => cell_regrown hc1a d os
          refine wp_region_quiet_below (by kernel_rfl) (by kernel_rfl) ?_
          repeat (any_goals (first | go_big_quiet_step (fail) | quiet_step (fail) | (refine wpQuiet_step (fun K hK => ?_); go_simp; refine hK _ ?_; clear hK K)))
          refine wpQuiet_nil ?_
          intro w11 hw11
          have hb11 := below_anyY hw11
          clear hw11 hr104 hr105 hr106 hr107 hr108
          clear hc101 hc102 hc103 hc0a hc1a
          have HC2 := Lib.hid (blk_below HC.out hb11)
          have HB2 := Lib.hid (HB.out.trans (hb11.mono HB.out.size))
          clear hb11
          go_wp2_with fail
          go_roundw
          case rel => exact ⟨k + 1, m + (10000 + v.size), by go_num, by go_num, by omega, by omega, by omega, HC2.out, HB2.out⟩
          case measure => simp [intOf] <;> omega
      · by_cases hs2 : (10000 : Int) < (v.size : Int)
        · have hw1 : IntKind.i64.wrap ((s.size : Int) + 10000) = (s.size : Int) + 10000 := IntWalk.i64_in _ (by omega)
          have hw2 : IntKind.i64.wrap ((m : Int) + ((s.size : Int) + 10000)) = (m : Int) + ((s.size : Int) + 10000) := IntWalk.i64_in _ (by omega)
          have hc101 : wr.cell? ⟨w.heap.size, 0, none⟩ = some (.int .i64 lv) := by rw [cell_of_row _ _ _ _ _ _ HC.out]; rfl
          have hc102 : wr.cell? ⟨w.heap.size, 1, none⟩ = some (.slice (some ⟨b, off, none⟩) en ec) := by rw [cell_of_row _ _ _ _ _ _ HC.out]; rfl
          have hc103 : wr.cell? ⟨w.heap.size, 2, none⟩ = some (.slice ca cn cc) := by rw [cell_of_row _ _ _ _ _ _ HC.out]; rfl
          go_wp2_with fail
          have hr104 := fun d os => cell_regrown hc101 d os
          have hr105 := fun d os => cell_regrown hc102 d os
          have hr106 := fun d os => cell_regrown hc103 d os
          have hr107 := fun d os => cell_regrown hc0a d os
          have hr108 := fun d os => cell_regrown hc1a d os
          refine wp_region_quiet_below (by kernel_rfl) (by kernel_rfl) ?_
          repeat (any_goals (first | go_big_quiet_step (fail) | quiet_step (fail) | (refine wpQuiet_step (fun K hK => ?_); go_simp; refine hK _ ?_; clear hK K)))
          refine wpQuiet_nil ?_
          intro w11 hw11
          have hb11 := below_anyY hw11
          clear hw11 hr104 hr105 hr106 hr107 hr108
          clear hc101 hc102 hc103 hc0a hc1a
          have HC2 := Lib.hid (blk_below HC.out hb11)
          have HB2 := Lib.hid (HB.out.trans (hb11.mono HB.out.size))
          clear hb11
          go_wp2_with fail
          go_roundw
          case rel => exact ⟨k + 1, m + (s.size + 10000), by go_num, by go_num, by omega, by omega, by omega, HC2.out, HB2.out⟩
          case measure => simp [intOf] <;> omega
        · have hw1 : IntKind.i64.wrap ((s.size : Int) + (v.size : Int)) = (s.size : Int) + (v.size : Int) := IntWalk.i64_in _ (by omega)
          have hw2 : IntKind.i64.wrap ((m : Int) + ((s.size : Int) + (v.size : Int))) = (m : Int) + ((s.size : Int) + (v.size : Int)) := IntWalk.i64_in _ (by omega)
          have hc101 : wr.cell? ⟨w.heap.size, 0, none⟩ = some (.int .i64 lv) := by rw [cell_of_row _ _ _ _ _ _ HC.out]; rfl
          have hc102 : wr.cell? ⟨w.heap.size, 1, none⟩ = some (.slice (some ⟨b, off, none⟩) en ec) := by rw [cell_of_row _ _ _ _ _ _ HC.out]; rfl
          have hc103 : wr.cell? ⟨w.heap.size, 2, none⟩ = some (.slice ca cn cc) := by rw [cell_of_row _ _ _ _ _ _ HC.out]; rfl
          go_wp2_with fail
          have hr104 := fun d os => cell_regrown hc101 d os
          have hr105 := fun d os => cell_regrown hc102 d os
          have hr106 := fun d os => cell_regrown hc103 d os
          have hr107 := fun d os => cell_regrown hc0a d os
          have hr108 := fun d os => cell_regrown hc1a d os
          refine wp_region_quiet_below (by kernel_rfl) (by kernel_rfl) ?_
          repeat (any_goals (first | go_big_quiet_step (fail) | quiet_step (fail) | (refine wpQuiet_step (fun K hK => ?_); go_simp; refine hK _ ?_; clear hK K)))
          refine wpQuiet_nil ?_
          intro w11 hw11
          have hb11 := below_anyY hw11
          clear hw11 hr104 hr105 hr106 hr107 hr108
          clear hc101 hc102 hc103 hc0a hc1a
          have HC2 := Lib.hid (blk_below HC.out hb11)
          have HB2 := Lib.hid (HB.out.trans (hb11.mono HB.out.size))
          clear hb11
          go_wp2_with fail
          go_roundw
          case rel => exact ⟨k + 1, m + (s.size + v.size), by go_num, by go_num, by omega, by omega, by omega, HC2.out, HB2.out⟩
          case measure => simp [intOf] <;> omega
    · have hd0 : (decide ((k : Int) < (en : Int)) = false) ∨ (decide ((k : Int) < (en : Int)) = true ∧ decide ((k : Int) ≤ 20) = false) := by
        by_cases h1 : k < en
        · exact Or.inr ⟨decide_eq_true (by omega), decide_eq_false (by omega)⟩
        · exact Or.inl (decide_eq_false (by omega))
      by_cases h2 : en ≤ 20
      · by_cases h3 : cn ≤ 20
        · rcases hd0 with hd1 | ⟨hd1, hd2⟩
          · have d2 : decide ((en : Int) ≤ 20) = true := decide_eq_true (by omega)
            have d3 : decide ((cn : Int) ≤ 20) = true := decide_eq_true (by omega)
            have hc101 : wr.cell? ⟨w.heap.size, 0, none⟩ = some (.int .i64 lv) := by rw [cell_of_row _ _ _ _ _ _ HC.out]; rfl
            have hc102 : wr.cell? ⟨w.heap.size, 1, none⟩ = some (.slice ea en ec) := by rw [cell_of_row _ _ _ _ _ _ HC.out]; rfl
            have hc103 : wr.cell? ⟨w.heap.size, 2, none⟩ = some (.slice ca cn cc) := by rw [cell_of_row _ _ _ _ _ _ HC.out]; rfl
            go_wp2_with fail
            all_goals
              go_ret
              exact ⟨_, rfl, (fun h => (⟨by omega, by omega⟩)), HB.out⟩
          · have d2 : decide ((en : Int) ≤ 20) = true := decide_eq_true (by omega)
            have d3 : decide ((cn : Int) ≤ 20) = true := decide_eq_true (by omega)
            have hc101 : wr.cell? ⟨w.heap.size, 0, none⟩ = some (.int .i64 lv) := by rw [cell_of_row _ _ _ _ _ _ HC.out]; rfl
            have hc102 : wr.cell? ⟨w.heap.size, 1, none⟩ = some (.slice ea en ec) := by rw [cell_of_row _ _ _ _ _ _ HC.out]; rfl
            have hc103 : wr.cell? ⟨w.heap.size, 2, none⟩ = some (.slice ca cn cc) := by rw [cell_of_row _ _ _ _ _ _ HC.out]; rfl
            go_wp2_with fail
            all_goals
              go_ret
              exact ⟨_, rfl, (fun h => (⟨by omega, by omega⟩)), HB.out⟩
        · rcases hd0 with hd1 | ⟨hd1, hd2⟩
          · have d2 : decide ((en : Int) ≤ 20) = true := decide_eq_true (by omega)
            have d3 : decide ((cn : Int) ≤ 20) = false := decide_eq_false (by omega)
            have hc101 : wr.cell? ⟨w.heap.size, 0, none⟩ = some (.int .i64 lv) := by rw [cell_of_row _ _ _ _ _ _ HC.out]; rfl
            have hc102 : wr.cell? ⟨w.heap.size, 1, none⟩ = some (.slice ea en ec) := by rw [cell_of_row _ _ _ _ _ _ HC.out]; rfl
            have hc103 : wr.cell? ⟨w.heap.size, 2, none⟩ = some (.slice ca cn cc) := by rw [cell_of_row _ _ _ _ _ _ HC.out]; rfl
            go_wp2_with fail
            all_goals
              go_ret
              exact ⟨_, rfl, (fun h => (by cases h)), HB.out⟩
          · have d2 : decide ((en : Int) ≤ 20) = true := decide_eq_true (by omega)
            have d3 : decide ((cn : Int) ≤ 20) = false := decide_eq_false (by omega)
            have hc101 : wr.cell? ⟨w.heap.size, 0, none⟩ = some (.int .i64 lv) := by rw [cell_of_row _ _ _ _ _ _ HC.out]; rfl
            have hc102 : wr.cell? ⟨w.heap.size, 1, none⟩ = some (.slice ea en ec) := by rw [cell_of_row _ _ _ _ _ _ HC.out]; rfl
            have hc103 : wr.cell? ⟨w.heap.size, 2, none⟩ = some (.slice ca cn cc) := by rw [cell_of_row _ _ _ _ _ _ HC.out]; rfl
            go_wp2_with fail
            all_goals
              go_ret
              exact ⟨_, rfl, (fun h => (by cases h)), HB.out⟩
      · rcases hd0 with hd1 | ⟨hd1, hd2⟩
        · have d2 : decide ((en : Int) ≤ 20) = false := decide_eq_false (by omega)
          have hc101 : wr.cell? ⟨w.heap.size, 0, none⟩ = some (.int .i64 lv) := by rw [cell_of_row _ _ _ _ _ _ HC.out]; rfl
          have hc102 : wr.cell? ⟨w.heap.size, 1, none⟩ = some (.slice ea en ec) := by rw [cell_of_row _ _ _ _ _ _ HC.out]; rfl
          have hc103 : wr.cell? ⟨w.heap.size, 2, none⟩ = some (.slice ca cn cc) := by rw [cell_of_row _ _ _ _ _ _ HC.out]; rfl
          go_wp2_with fail
          all_goals
            go_ret
            exact ⟨_, rfl, (fun h => (by cases h)), HB.out⟩
        · have d2 : decide ((en : Int) ≤ 20) = false := decide_eq_false (by omega)
          have hc101 : wr.cell? ⟨w.heap.size, 0, none⟩ = some (.int .i64 lv) := by rw [cell_of_row _ _ _ _ _ _ HC.out]; rfl
          have hc102 : wr.cell? ⟨w.heap.size, 1, none⟩ = some (.slice ea en ec) := by rw [cell_of_row _ _ _ _ _ _ HC.out]; rfl
          have hc103 : wr.cell? ⟨w.heap.size, 2, none⟩ = some (.slice ca cn cc) := by rw [cell_of_row _ _ _ _ _ _ HC.out]; rfl
          go_wp2_with fail
          all_goals
            go_ret
            exact ⟨_, rfl, (fun h => (by cases h)), HB.out⟩
set_option maxRecDepth 100000 in
set_option maxHeartbeats 4000000 in
theorem rsame19_yes (lv : Int) (ea ca ea2 ca2 : Option Addr) (en ec cn cc ec2 cc2 : Nat) (es : List En) (cs : List Int) (w : World) (h : ChR w ea ca en cn es cs) (h2 : ChR w ea2 ca2 en cn es cs) (hn : (en : Int) ≤ 9223372036854775807) (hm : (cn : Int) ≤ 9223372036854775807) :
    Calls Try.prog 16 #[.agg #[.int .i64 lv, .slice ea en ec, .slice ca cn cc], .agg #[.int .i64 lv, .slice ea2 en ec2, .slice ca2 cn cc2]] w fun e w' => e = .returned (.bool true) ∧ Below w.heap.size w w' := by
  have H := Lib.hid h
  have H2 := Lib.hid h2
  clear h h2
  have HB1 := Lib.hid (Below.refl w.heap.size w)
  go_enter Try.func16, Try.ntmps16
  have HF2 := Lib.hid (blk_new w (.cells #[.int .i64 lv, .slice ea en ec, .slice ca cn cc] 26 (0, 0)))
  have HB3 := Lib.hid (HB1.out.alloc HB1.out.size (.cells #[.int .i64 lv, .slice ea en ec, .slice ca cn cc] 26 (0, 0)))
  clear HB1
  have HF4 := Lib.hid (blk_alloc HF2.out (.cells #[.int .i64 lv, .slice ea2 en ec2, .slice ca2 cn cc2] 26 (0, 0)))
  clear HF2
  have HF5 : Hid (((w.alloc (.cells #[.int .i64 lv, .slice ea en ec, .slice ca cn cc] 26 (0, 0))).alloc (.cells #[.int .i64 lv, .slice ea2 en ec2, .slice ca2 cn cc2] 26 (0, 0))).heap[w.heap.size + 1]? = some (.cells #[.int .i64 lv, .slice ea2 en ec2, .slice ca2 cn cc2] 26 (0, 0))) := Lib.hid (blk_newN (W := (w.alloc (.cells #[.int .i64 lv, .slice ea en ec, .slice ca cn cc] 26 (0, 0)))) (o := (.cells #[.int .i64 lv, .slice ea2 en ec2, .slice ca2 cn cc2] 26 (0, 0))) (by simp))
  have HB6 := Lib.hid (HB3.out.alloc (by have := HB3.out.size; simp at this ⊢ <;> omega) (.cells #[.int .i64 lv, .slice ea2 en ec2, .slice ca2 cn cc2] 26 (0, 0)))
  clear HB3
  have hc7 : ((w.alloc (.cells #[.int .i64 lv, .slice ea en ec, .slice ca cn cc] 26 (0, 0))).alloc (.cells #[.int .i64 lv, .slice ea2 en ec2, .slice ca2 cn cc2] 26 (0, 0))).cell? ⟨w.heap.size, 0, none⟩ = some (.int .i64 lv) := by rw [cell_of_row _ _ _ _ _ _ HF4.out]; rfl
  have hc8 : ((w.alloc (.cells #[.int .i64 lv, .slice ea en ec, .slice ca cn cc] 26 (0, 0))).alloc (.cells #[.int .i64 lv, .slice ea2 en ec2, .slice ca2 cn cc2] 26 (0, 0))).cell? ⟨w.heap.size, 1, none⟩ = some (.slice ea en ec) := by rw [cell_of_row _ _ _ _ _ _ HF4.out]; rfl
  have hc9 : ((w.alloc (.cells #[.int .i64 lv, .slice ea en ec, .slice ca cn cc] 26 (0, 0))).alloc (.cells #[.int .i64 lv, .slice ea2 en ec2, .slice ca2 cn cc2] 26 (0, 0))).cell? ⟨w.heap.size, 2, none⟩ = some (.slice ca cn cc) := by rw [cell_of_row _ _ _ _ _ _ HF4.out]; rfl
  have hc10 : ((w.alloc (.cells #[.int .i64 lv, .slice ea en ec, .slice ca cn cc] 26 (0, 0))).alloc (.cells #[.int .i64 lv, .slice ea2 en ec2, .slice ca2 cn cc2] 26 (0, 0))).cell? ⟨w.heap.size + 1, 0, none⟩ = some (.int .i64 lv) := by rw [cell_of_row _ _ _ _ _ _ HF5.out]; rfl
  have hc11 : ((w.alloc (.cells #[.int .i64 lv, .slice ea en ec, .slice ca cn cc] 26 (0, 0))).alloc (.cells #[.int .i64 lv, .slice ea2 en ec2, .slice ca2 cn cc2] 26 (0, 0))).cell? ⟨w.heap.size + 1, 1, none⟩ = some (.slice ea2 en ec2) := by rw [cell_of_row _ _ _ _ _ _ HF5.out]; rfl
  have hc12 : ((w.alloc (.cells #[.int .i64 lv, .slice ea en ec, .slice ca cn cc] 26 (0, 0))).alloc (.cells #[.int .i64 lv, .slice ea2 en ec2, .slice ca2 cn cc2] 26 (0, 0))).cell? ⟨w.heap.size + 1, 2, none⟩ = some (.slice ca2 cn cc2) := by rw [cell_of_row _ _ _ _ _ _ HF5.out]; rfl
  go_wp2_with fail
  clear hc7 hc8 hc9 hc10 hc11 hc12
  go_loopw [5] (fun i wr => ∃ k : Nat, i = .int .i64 (k : Int) ∧ k ≤ en ∧ wr.heap[w.heap.size]? = some (.cells #[.int .i64 lv, .slice ea en ec, .slice ca cn cc] 26 (0, 0)) ∧ wr.heap[w.heap.size + 1]? = some (.cells #[.int .i64 lv, .slice ea2 en ec2, .slice ca2 cn cc2] 26 (0, 0)) ∧ Below w.heap.size w wr) (fun i _ => en - (intOf i).toNat)
  case atStart => exact ⟨0, rfl, Nat.zero_le _, HF4.out, HF5.out, HB6.out⟩
  case round =>
    obtain ⟨k, rfl, hk, hbx, hbd, hb⟩ := hrel
    have HC := Lib.hid hbx
    have HDD := Lib.hid hbd
    have HB := Lib.hid hb
    have hDw := lt_of_block hbd
    clear hbx hbd hb
    by_cases hlt : k < en
    · have hd1 : decide ((k : Int) < (en : Int)) = true := decide_eq_true (by omega)
      obtain ⟨b, off, hl, rfl, hbb, hc⟩ := (H.out.below HB.out).e.at hlt
      obtain ⟨b2, off2, hl2, rfl, hbb2, hc2⟩ := (H2.out.below HB.out).e.at hlt
      obtain ⟨x, hx⟩ : ∃ x, es[k] = x := ⟨_, rfl⟩
      rw [hx] at hc hc2
      obtain ⟨s, v⟩ := x
      have a0 := hc 0 _ rfl
      have a1 := hc 1 _ rfl
      have a2 := hc2 0 _ rfl
      have a3 := hc2 1 _ rfl
      rw [Nat.add_zero] at a0 a2
      have hi0 : (0 : Int) ≤ (k : Int) := by omega
      clear hc hc2 hx
      have hc101 : wr.cell? ⟨w.heap.size, 0, none⟩ = some (.int .i64 lv) := by rw [cell_of_row _ _ _ _ _ _ HC.out]; rfl
      have hc102 : wr.cell? ⟨w.heap.size, 1, none⟩ = some (.slice (some ⟨b, off, none⟩) en ec) := by rw [cell_of_row _ _ _ _ _ _ HC.out]; rfl
      have hc103 : wr.cell? ⟨w.heap.size, 2, none⟩ = some (.slice ca cn cc) := by rw [cell_of_row _ _ _ _ _ _ HC.out]; rfl
      have hc104 : wr.cell? ⟨w.heap.size + 1, 0, none⟩ = some (.int .i64 lv) := by rw [cell_of_row _ _ _ _ _ _ HDD.out]; rfl
      have hc105 : wr.cell? ⟨w.heap.size + 1, 1, none⟩ = some (.slice (some ⟨b2, off2, none⟩) en ec2) := by rw [cell_of_row _ _ _ _ _ _ HDD.out]; rfl
      have hc106 : wr.cell? ⟨w.heap.size + 1, 2, none⟩ = some (.slice ca2 cn cc2) := by rw [cell_of_row _ _ _ _ _ _ HDD.out]; rfl
      go_wp2_with fail
      go_quiet (fail)
      go_wp2_with fail
      go_roundw
      case rel => exact ⟨k + 1, by go_num, by omega, HC.out, HDD.out, ⟨HB.out.os, HB.out.tape, HB.out.output, HB.out.size, HB.out.block⟩⟩
      case measure => simp [intOf] <;> omega
    · have hd1 : decide ((k : Int) < (en : Int)) = false := decide_eq_false (by omega)
      have hc101 : wr.cell? ⟨w.heap.size, 0, none⟩ = some (.int .i64 lv) := by rw [cell_of_row _ _ _ _ _ _ HC.out]; rfl
      have hc102 : wr.cell? ⟨w.heap.size, 1, none⟩ = some (.slice ea en ec) := by rw [cell_of_row _ _ _ _ _ _ HC.out]; rfl
      have hc103 : wr.cell? ⟨w.heap.size, 2, none⟩ = some (.slice ca cn cc) := by rw [cell_of_row _ _ _ _ _ _ HC.out]; rfl
      have hc104 : wr.cell? ⟨w.heap.size + 1, 0, none⟩ = some (.int .i64 lv) := by rw [cell_of_row _ _ _ _ _ _ HDD.out]; rfl
      have hc105 : wr.cell? ⟨w.heap.size + 1, 1, none⟩ = some (.slice ea2 en ec2) := by rw [cell_of_row _ _ _ _ _ _ HDD.out]; rfl
      have hc106 : wr.cell? ⟨w.heap.size + 1, 2, none⟩ = some (.slice ca2 cn cc2) := by rw [cell_of_row _ _ _ _ _ _ HDD.out]; rfl
      go_wp2_with fail
      clear hc101 hc102 hc103 hc104 hc105 hc106
      clear hd1
      go_loopw [6] (fun i wr => ∃ k : Nat, i = .int .i64 (k : Int) ∧ k ≤ cn ∧ wr.heap[w.heap.size]? = some (.cells #[.int .i64 lv, .slice ea en ec, .slice ca cn cc] 26 (0, 0)) ∧ wr.heap[w.heap.size + 1]? = some (.cells #[.int .i64 lv, .slice ea2 en ec2, .slice ca2 cn cc2] 26 (0, 0)) ∧ Below w.heap.size w wr) (fun i _ => cn - (intOf i).toNat)
      case atStart => exact ⟨0, rfl, Nat.zero_le _, HC.out, HDD.out, HB.out⟩
      case round =>
        obtain ⟨k2, rfl, hk2, hbx, hbd, hb⟩ := hrel
        have HC3 := Lib.hid hbx
        have HD3 := Lib.hid hbd
        have HB3 := Lib.hid hb
        have hDw3 := lt_of_block hbd
        clear hbx hbd hb
        by_cases hlt2 : k2 < cn
        · have hd1 : decide ((k2 : Int) < (cn : Int)) = true := decide_eq_true (by omega)
          obtain ⟨b, off, hl, rfl, hbb, hc⟩ := (H.out.below HB3.out).c.at hlt2
          obtain ⟨b2, off2, hl2, rfl, hbb2, hc2⟩ := (H2.out.below HB3.out).c.at hlt2
          obtain ⟨x, hx⟩ : ∃ x, cs[k2] = x := ⟨_, rfl⟩
          rw [hx] at hc hc2
          have a0 := hc 0 _ rfl
          have a2 := hc2 0 _ rfl
          rw [Nat.add_zero, Nat.mul_one] at a0 a2
          have hi0 : (0 : Int) ≤ (k2 : Int) := by omega
          clear hc hc2 hx

          have hc201 : wr.cell? ⟨w.heap.size, 0, none⟩ = some (.int .i64 lv) := by rw [cell_of_row _ _ _ _ _ _ HC3.out]; rfl
          have hc202 : wr.cell? ⟨w.heap.size, 1, none⟩ = some (.slice ea en ec) := by rw [cell_of_row _ _ _ _ _ _ HC3.out]; rfl
          have hc203 : wr.cell? ⟨w.heap.size, 2, none⟩ = some (.slice (some ⟨b, off, none⟩) cn cc) := by rw [cell_of_row _ _ _ _ _ _ HC3.out]; rfl
          have hc204 : wr.cell? ⟨w.heap.size + 1, 0, none⟩ = some (.int .i64 lv) := by rw [cell_of_row _ _ _ _ _ _ HD3.out]; rfl
          have hc205 : wr.cell? ⟨w.heap.size + 1, 1, none⟩ = some (.slice ea2 en ec2) := by rw [cell_of_row _ _ _ _ _ _ HD3.out]; rfl
          have hc206 : wr.cell? ⟨w.heap.size + 1, 2, none⟩ = some (.slice (some ⟨b2, off2, none⟩) cn cc2) := by rw [cell_of_row _ _ _ _ _ _ HD3.out]; rfl
          go_wp2_with fail
          go_quiet (fail)
          go_wp2_with fail
          go_roundw
          case rel => exact ⟨k2 + 1, by go_num, by omega, HC3.out, HD3.out, ⟨HB3.out.os, HB3.out.tape, HB3.out.output, HB3.out.size, HB3.out.block⟩⟩
          case measure => simp [intOf] <;> omega
        · have hd1 : decide ((k2 : Int) < (cn : Int)) = false := decide_eq_false (by omega)
          have hc201 : wr.cell? ⟨w.heap.size, 0, none⟩ = some (.int .i64 lv) := by rw [cell_of_row _ _ _ _ _ _ HC3.out]; rfl
          have hc202 : wr.cell? ⟨w.heap.size, 1, none⟩ = some (.slice ea en ec) := by rw [cell_of_row _ _ _ _ _ _ HC3.out]; rfl
          have hc203 : wr.cell? ⟨w.heap.size, 2, none⟩ = some (.slice ca cn cc) := by rw [cell_of_row _ _ _ _ _ _ HC3.out]; rfl
          have hc204 : wr.cell? ⟨w.heap.size + 1, 0, none⟩ = some (.int .i64 lv) := by rw [cell_of_row _ _ _ _ _ _ HD3.out]; rfl
          have hc205 : wr.cell? ⟨w.heap.size + 1, 1, none⟩ = some (.slice ea2 en ec2) := by rw [cell_of_row _ _ _ _ _ _ HD3.out]; rfl
          have hc206 : wr.cell? ⟨w.heap.size + 1, 2, none⟩ = some (.slice ca2 cn cc2) := by rw [cell_of_row _ _ _ _ _ _ HD3.out]; rfl
          go_wp2_with fail
          go_ret
          exact ⟨rfl, HB3.out⟩
end Go.Proofs.Ytdjjabjegmbmaaa
