/- The document's Wrong and Put of layer 19 over this translation. Condition: slices of at most 2 to the 62nd. -/
import Derived.Test.YtdjjabjegmbmaaaMc
import Derived.Test.YtdjjabjegmbmaaaSput
namespace Go.Proofs.Ytdjjabjegmbmaaa
open Go.RowKit Vi Zp

theorem fitB_val (lv : Int) (es : List En) (cs : List Int) (h1 : 0 ≤ lv) (h2 : lv ≤ 40) (h3 : es.length ≤ 8) (h4 : lv = 0 → cs.length = 0) (h5 : lv ≠ 0 → es.length ≠ 0 ∧ cs.length = es.length) : fitB lv es cs = !cs.any badI := by
  unfold fitB
  rw [if_neg (by omega)]
  by_cases h0 : lv = 0
  · rw [if_pos h0, decide_eq_true (h4 h0), List.eq_nil_of_length_eq_zero (h4 h0)]; rfl
  · rw [if_neg h0, if_neg (by have := h5 h0; omega)]
theorem any_take (l : List Int) (k : Nat) (h : k < l.length) (hp : (l.take k).any badI = false) : (badI l[k] = true → l.any badI = true) ∧ (badI l[k] = false → (l.take (k + 1)).any badI = false) := by
  refine ⟨fun hb => List.any_eq_true.2 ⟨l[k], List.getElem_mem h, hb⟩, fun hb => ?_⟩
  rw [List.take_succ_eq_append_getElem h, List.any_append, hp, List.any_cons, hb]; rfl
set_option maxRecDepth 100000 in
set_option maxHeartbeats 8000000 in
theorem rwrong_any (lv : Int) (ea ca : Option Addr) (en ec cn cc : Nat) (es : List En) (cs : List Int) (w : World) (h : ChR w ea ca en cn es cs) (hn : (en : Int) ≤ 9223372036854775807) (hm : (cn : Int) ≤ 9223372036854775807) :
    Calls Try.prog 140 #[.agg #[.int .i64 lv, .slice ea en ec, .slice ca cn cc]] w fun e w' => e = .returned (.int .i64 (chW lv es cs)) ∧ Below w.heap.size w w' := by
  have H := Lib.hid h
  have LE := Lib.hid h.e.1
  have LC := Lib.hid h.c.1
  clear h
  by_cases h1 : lv < 0
  · have d1 : decide (lv < 0) = true := decide_eq_true (by omega)
    have HV := Lib.hid (show (2 : Int) = chW lv es cs by unfold chW; rw [if_pos (by unfold fitB; rw [if_pos (Or.inl h1)])])
    have HB1 := Lib.hid (Below.refl w.heap.size w)
    go_enter Try.func140, Try.ntmps140
    have HF2 := Lib.hid (blk_new w (.cells #[.int .i64 lv, .slice ea en ec, .slice ca cn cc] 26 (0, 0)))
    have HB3 := Lib.hid (HB1.out.alloc HB1.out.size (.cells #[.int .i64 lv, .slice ea en ec, .slice ca cn cc] 26 (0, 0)))
    clear HB1
    have hc4 : (w.alloc (.cells #[.int .i64 lv, .slice ea en ec, .slice ca cn cc] 26 (0, 0))).cell? ⟨w.heap.size, 0, none⟩ = some (.int .i64 lv) := by rw [cell_of_row _ _ _ _ _ _ HF2.out]; rfl
    have hc5 : (w.alloc (.cells #[.int .i64 lv, .slice ea en ec, .slice ca cn cc] 26 (0, 0))).cell? ⟨w.heap.size, 1, none⟩ = some (.slice ea en ec) := by rw [cell_of_row _ _ _ _ _ _ HF2.out]; rfl
    have hc6 : (w.alloc (.cells #[.int .i64 lv, .slice ea en ec, .slice ca cn cc] 26 (0, 0))).cell? ⟨w.heap.size, 2, none⟩ = some (.slice ca cn cc) := by rw [cell_of_row _ _ _ _ _ _ HF2.out]; rfl
    go_wp2_with fail
    go_ret
    exact ⟨by first | (rw [← HV.out]; done) | (rw [← HV.out]; rfl), HB3.out⟩
  by_cases h2 : 40 < lv
  · have d1 : decide (lv < 0) = false := decide_eq_false (by omega)
    have d2 : decide (40 < lv) = true := decide_eq_true (by omega)
    have HV := Lib.hid (show (2 : Int) = chW lv es cs by unfold chW; rw [if_pos (by unfold fitB; rw [if_pos (Or.inr (Or.inl h2))])])
    have HB1 := Lib.hid (Below.refl w.heap.size w)
    go_enter Try.func140, Try.ntmps140
    have HF2 := Lib.hid (blk_new w (.cells #[.int .i64 lv, .slice ea en ec, .slice ca cn cc] 26 (0, 0)))
    have HB3 := Lib.hid (HB1.out.alloc HB1.out.size (.cells #[.int .i64 lv, .slice ea en ec, .slice ca cn cc] 26 (0, 0)))
    clear HB1
    have hc4 : (w.alloc (.cells #[.int .i64 lv, .slice ea en ec, .slice ca cn cc] 26 (0, 0))).cell? ⟨w.heap.size, 0, none⟩ = some (.int .i64 lv) := by rw [cell_of_row _ _ _ _ _ _ HF2.out]; rfl
    have hc5 : (w.alloc (.cells #[.int .i64 lv, .slice ea en ec, .slice ca cn cc] 26 (0, 0))).cell? ⟨w.heap.size, 1, none⟩ = some (.slice ea en ec) := by rw [cell_of_row _ _ _ _ _ _ HF2.out]; rfl
    have hc6 : (w.alloc (.cells #[.int .i64 lv, .slice ea en ec, .slice ca cn cc] 26 (0, 0))).cell? ⟨w.heap.size, 2, none⟩ = some (.slice ca cn cc) := by rw [cell_of_row _ _ _ _ _ _ HF2.out]; rfl
    go_wp2_with fail
    go_ret
    exact ⟨by first | (rw [← HV.out]; done) | (rw [← HV.out]; rfl), HB3.out⟩
  by_cases h3 : 8 < en
  · have d1 : decide (lv < 0) = false := decide_eq_false (by omega)
    have d2 : decide (40 < lv) = false := decide_eq_false (by omega)
    have d3 : decide ((8 : Int) < (en : Int)) = true := decide_eq_true (by omega)
    have HV := Lib.hid (show (2 : Int) = chW lv es cs by unfold chW; rw [if_pos (by unfold fitB; rw [if_pos (Or.inr (Or.inr (by rw [LE.out]; exact h3)))])])
    have HB1 := Lib.hid (Below.refl w.heap.size w)
    go_enter Try.func140, Try.ntmps140
    have HF2 := Lib.hid (blk_new w (.cells #[.int .i64 lv, .slice ea en ec, .slice ca cn cc] 26 (0, 0)))
    have HB3 := Lib.hid (HB1.out.alloc HB1.out.size (.cells #[.int .i64 lv, .slice ea en ec, .slice ca cn cc] 26 (0, 0)))
    clear HB1
    have hc4 : (w.alloc (.cells #[.int .i64 lv, .slice ea en ec, .slice ca cn cc] 26 (0, 0))).cell? ⟨w.heap.size, 0, none⟩ = some (.int .i64 lv) := by rw [cell_of_row _ _ _ _ _ _ HF2.out]; rfl
    have hc5 : (w.alloc (.cells #[.int .i64 lv, .slice ea en ec, .slice ca cn cc] 26 (0, 0))).cell? ⟨w.heap.size, 1, none⟩ = some (.slice ea en ec) := by rw [cell_of_row _ _ _ _ _ _ HF2.out]; rfl
    have hc6 : (w.alloc (.cells #[.int .i64 lv, .slice ea en ec, .slice ca cn cc] 26 (0, 0))).cell? ⟨w.heap.size, 2, none⟩ = some (.slice ca cn cc) := by rw [cell_of_row _ _ _ _ _ _ HF2.out]; rfl
    go_wp2_with fail
    go_ret
    exact ⟨by first | (rw [← HV.out]; done) | (rw [← HV.out]; rfl), HB3.out⟩
  by_cases h4 : lv = 0
  · by_cases h5 : cn = 0
    rotate_left
    · have d6 : decide ((0 : Int) < (cn : Int)) = true := decide_eq_true (by omega)
      have d6n : decide (0 < cn) = true := decide_eq_true (by omega)
      have d1 : decide (lv < 0) = false := decide_eq_false (by omega)
      have d2 : decide (40 < lv) = false := decide_eq_false (by omega)
      have d3 : decide ((8 : Int) < (en : Int)) = false := decide_eq_false (by omega)
      have d4 : (lv == 0) = true := by simpa using h4
      have d5 : decide (0 < lv) = false := decide_eq_false (by omega)
      have HV := Lib.hid (show (2 : Int) = chW lv es cs by unfold chW; rw [if_pos (by unfold fitB; rw [if_neg (by rw [LE.out]; omega), if_pos h4]; exact decide_eq_false (by rw [LC.out]; exact h5))])
      clear h4
      have HB1 := Lib.hid (Below.refl w.heap.size w)
      go_enter Try.func140, Try.ntmps140
      have HF2 := Lib.hid (blk_new w (.cells #[.int .i64 lv, .slice ea en ec, .slice ca cn cc] 26 (0, 0)))
      have HB3 := Lib.hid (HB1.out.alloc HB1.out.size (.cells #[.int .i64 lv, .slice ea en ec, .slice ca cn cc] 26 (0, 0)))
      clear HB1
      have hc4 : (w.alloc (.cells #[.int .i64 lv, .slice ea en ec, .slice ca cn cc] 26 (0, 0))).cell? ⟨w.heap.size, 0, none⟩ = some (.int .i64 lv) := by rw [cell_of_row _ _ _ _ _ _ HF2.out]; rfl
      have hc5 : (w.alloc (.cells #[.int .i64 lv, .slice ea en ec, .slice ca cn cc] 26 (0, 0))).cell? ⟨w.heap.size, 1, none⟩ = some (.slice ea en ec) := by rw [cell_of_row _ _ _ _ _ _ HF2.out]; rfl
      have hc6 : (w.alloc (.cells #[.int .i64 lv, .slice ea en ec, .slice ca cn cc] 26 (0, 0))).cell? ⟨w.heap.size, 2, none⟩ = some (.slice ca cn cc) := by rw [cell_of_row _ _ _ _ _ _ HF2.out]; rfl
      go_wp2_with fail
      go_ret
      exact ⟨by first | (rw [← HV.out]; done) | (rw [← HV.out]; rfl), HB3.out⟩
    · have d6 : decide ((0 : Int) < (cn : Int)) = false := decide_eq_false (by omega)
      have d6n : decide (0 < cn) = false := decide_eq_false (by omega)
      have d1 : decide (lv < 0) = false := decide_eq_false (by omega)
      have d2 : decide (40 < lv) = false := decide_eq_false (by omega)
      have d3 : decide ((8 : Int) < (en : Int)) = false := decide_eq_false (by omega)
      have d4 : (lv == 0) = true := by simpa using h4
      have d5 : decide (0 < lv) = false := decide_eq_false (by omega)
      have HFV := Lib.hid (fitB_val lv es cs (by omega) (by omega) (by rw [LE.out]; omega) (fun h0 => by rw [LC.out]; omega) (fun h0 => by rw [LE.out, LC.out]; omega))
      clear h1 h2 h3
      have HL0 := Lib.hid h4
      clear h4 h5
      have HB1 := Lib.hid (Below.refl w.heap.size w)
      go_enter Try.func140, Try.ntmps140
      have HF2 := Lib.hid (blk_new w (.cells #[.int .i64 lv, .slice ea en ec, .slice ca cn cc] 26 (0, 0)))
      have HB3 := Lib.hid (HB1.out.alloc HB1.out.size (.cells #[.int .i64 lv, .slice ea en ec, .slice ca cn cc] 26 (0, 0)))
      clear HB1
      have hc4 : (w.alloc (.cells #[.int .i64 lv, .slice ea en ec, .slice ca cn cc] 26 (0, 0))).cell? ⟨w.heap.size, 0, none⟩ = some (.int .i64 lv) := by rw [cell_of_row _ _ _ _ _ _ HF2.out]; rfl
      have hc5 : (w.alloc (.cells #[.int .i64 lv, .slice ea en ec, .slice ca cn cc] 26 (0, 0))).cell? ⟨w.heap.size, 1, none⟩ = some (.slice ea en ec) := by rw [cell_of_row _ _ _ _ _ _ HF2.out]; rfl
      have hc6 : (w.alloc (.cells #[.int .i64 lv, .slice ea en ec, .slice ca cn cc] 26 (0, 0))).cell? ⟨w.heap.size, 2, none⟩ = some (.slice ca cn cc) := by rw [cell_of_row _ _ _ _ _ _ HF2.out]; rfl
      go_wp2_with fail
      clear hc4 hc5 hc6
      go_loopw [3] (fun i wr => ∃ k : Nat, i = .int .i64 (k : Int) ∧ k ≤ cn ∧ (cs.take k).any badI = false ∧ wr.heap[w.heap.size]? = some (.cells #[.int .i64 lv, .slice ea en ec, .slice ca cn cc] 26 (0, 0)) ∧ Below w.heap.size w wr) (fun i _ => cn - (intOf i).toNat)
      case atStart => exact ⟨0, rfl, Nat.zero_le _, rfl, HF2.out, HB3.out⟩
      case round =>
        obtain ⟨k, rfl, hk, hany, hbx, hb⟩ := hrel
        have HA := Lib.hid hany
        have HC := Lib.hid hbx
        have HB := Lib.hid hb
        have hCw := lt_of_block hbx
        clear hany hbx hb
        by_cases hlt : k < cn
        · have hd1 : decide ((k : Int) < (cn : Int)) = true := decide_eq_true (by omega)
          obtain ⟨b, off, hl, rfl, hbb, hc⟩ := (H.out.below HB.out).c.at hlt
          have HAT := Lib.hid (any_take cs k hl HA.out)
          obtain ⟨x, hx⟩ : ∃ x, cs[k] = x := ⟨_, rfl⟩
          rw [hx] at hc HAT
          have a0 := hc 0 _ rfl
          rw [Nat.add_zero, Nat.mul_one] at a0
          have hi0 : (0 : Int) ≤ (k : Int) := by omega
          clear hc hx
          by_cases hx1 : x < 1
          · have hv1 : decide (x < 1) = true := decide_eq_true hx1
            have HV := Lib.hid (show (2 : Int) = chW lv es cs by unfold chW; rw [if_pos (by rw [HFV.out, HAT.out.1 (by unfold badI; rw [hv1]; rfl)]; rfl)])
            have hc101 : wr.cell? ⟨w.heap.size, 0, none⟩ = some (.int .i64 lv) := by rw [cell_of_row _ _ _ _ _ _ HC.out]; rfl
            have hc102 : wr.cell? ⟨w.heap.size, 1, none⟩ = some (.slice ea en ec) := by rw [cell_of_row _ _ _ _ _ _ HC.out]; rfl
            have hc103 : wr.cell? ⟨w.heap.size, 2, none⟩ = some (.slice (some ⟨b, off, none⟩) cn cc) := by rw [cell_of_row _ _ _ _ _ _ HC.out]; rfl
            go_wp2_with fail
            go_ret
            exact ⟨by first | (rw [← HV.out]; done) | (rw [← HV.out]; rfl), HB.out⟩
          · have hv1 : decide (x < 1) = false := decide_eq_false hx1
            by_cases hx2 : 2147483648 < x
            · have hv2 : decide (2147483648 < x) = true := decide_eq_true hx2
              have HV := Lib.hid (show (2 : Int) = chW lv es cs by unfold chW; rw [if_pos (by rw [HFV.out, HAT.out.1 (by unfold badI; rw [hv1, hv2]; rfl)]; rfl)])
              have hc101 : wr.cell? ⟨w.heap.size, 0, none⟩ = some (.int .i64 lv) := by rw [cell_of_row _ _ _ _ _ _ HC.out]; rfl
              have hc102 : wr.cell? ⟨w.heap.size, 1, none⟩ = some (.slice ea en ec) := by rw [cell_of_row _ _ _ _ _ _ HC.out]; rfl
              have hc103 : wr.cell? ⟨w.heap.size, 2, none⟩ = some (.slice (some ⟨b, off, none⟩) cn cc) := by rw [cell_of_row _ _ _ _ _ _ HC.out]; rfl
              go_wp2_with fail
              go_ret
              exact ⟨by first | (rw [← HV.out]; done) | (rw [← HV.out]; rfl), HB.out⟩
            · have hv2 : decide (2147483648 < x) = false := decide_eq_false hx2
              have HN := Lib.hid (HAT.out.2 (by unfold badI; rw [hv1, hv2]; rfl))
              have hc101 : wr.cell? ⟨w.heap.size, 0, none⟩ = some (.int .i64 lv) := by rw [cell_of_row _ _ _ _ _ _ HC.out]; rfl
              have hc102 : wr.cell? ⟨w.heap.size, 1, none⟩ = some (.slice ea en ec) := by rw [cell_of_row _ _ _ _ _ _ HC.out]; rfl
              have hc103 : wr.cell? ⟨w.heap.size, 2, none⟩ = some (.slice (some ⟨b, off, none⟩) cn cc) := by rw [cell_of_row _ _ _ _ _ _ HC.out]; rfl
              go_wp2_with fail
              go_roundw
              case rel => exact ⟨k + 1, by go_num, by omega, HN.out, HC.out, HB.out⟩
              case measure => simp [intOf] <;> omega
        · have hd1 : decide ((k : Int) < (cn : Int)) = false := decide_eq_false (by omega)
          have HFT := Lib.hid (show fitB lv es cs = true by
            have := HA.out
            rw [List.take_of_length_le (by rw [LC.out]; omega)] at this
            rw [HFV.out, this]; rfl)
          have HV := Lib.hid (show entW lv none es = chW lv es cs by unfold chW; rw [if_neg (by rw [HFT.out]; simp)])
          have hc101 : wr.cell? ⟨w.heap.size, 0, none⟩ = some (.int .i64 lv) := by rw [cell_of_row _ _ _ _ _ _ HC.out]; rfl
          have hc102 : wr.cell? ⟨w.heap.size, 1, none⟩ = some (.slice ea en ec) := by rw [cell_of_row _ _ _ _ _ _ HC.out]; rfl
          have hc103 : wr.cell? ⟨w.heap.size, 2, none⟩ = some (.slice ca cn cc) := by rw [cell_of_row _ _ _ _ _ _ HC.out]; rfl
          go_wp2_with fail
          clear hc101 hc102 hc103
          clear hd1
          go_loopw [4] (fun i wr => ∃ k : Nat, i = .int .i64 (k : Int) ∧ k ≤ en ∧ entW lv (prevK es k) (es.drop k) = entW lv none es ∧ wr.heap[w.heap.size]? = some (.cells #[.int .i64 lv, .slice ea en ec, .slice ca cn cc] 26 (0, 0)) ∧ Below w.heap.size w wr) (fun i _ => en - (intOf i).toNat)
          case atStart => exact ⟨0, rfl, Nat.zero_le _, rfl, HC.out, HB.out⟩
          case round =>
            obtain ⟨j, rfl, hj, hs, hbx, hb⟩ := hrel
            have HS := Lib.hid hs
            have HC2 := Lib.hid hbx
            have HB2 := Lib.hid hb
            have hCw2 := lt_of_block hbx
            clear hs hbx hb
            by_cases hlt2 : j < en
            · have hd1 : decide ((j : Int) < (en : Int)) = true := decide_eq_true (by omega)
              have RE := Lib.hid (H.out.below HB2.out).e
              obtain ⟨b, off, hl, rfl, hbb, hc⟩ := RE.out.at hlt2
              have HA2 := Lib.hid (entW_at lv es j hl)
              obtain ⟨x, hx⟩ : ∃ x, es[j] = x := ⟨_, rfl⟩
              rw [hx] at hc HA2
              obtain ⟨s, v⟩ := x
              have hca := hc 0 _ rfl
              have hcb := hc 1 _ rfl
              rw [Nat.add_zero] at hca
              have hi0 : (0 : Int) ≤ (j : Int) := by omega
              clear hc hx
              have hs0 : (0 : Int) ≤ (s.size : Int) := by omega
              have hv0 : (0 : Int) ≤ (v.size : Int) := by omega
              by_cases g1 : s.size < 1
              · have e1 : decide ((s.size : Int) < 1) = true := decide_eq_true (by omega)
                have HR := Lib.hid (show (2 : Int) = chW lv es cs by rw [← HV.out, ← HS.out, HA2.out, if_pos (by unfold okE; rw [decide_eq_false (show ¬ (1 ≤ s.size ∧ s.size ≤ 64) by omega)]; rfl)])
                have hc201 : wr.cell? ⟨w.heap.size, 0, none⟩ = some (.int .i64 lv) := by rw [cell_of_row _ _ _ _ _ _ HC2.out]; rfl
                have hc202 : wr.cell? ⟨w.heap.size, 1, none⟩ = some (.slice (some ⟨b, off, none⟩) en ec) := by rw [cell_of_row _ _ _ _ _ _ HC2.out]; rfl
                have hc203 : wr.cell? ⟨w.heap.size, 2, none⟩ = some (.slice ca cn cc) := by rw [cell_of_row _ _ _ _ _ _ HC2.out]; rfl
                go_wp2_with fail
                have hr204 := fun d os => cell_regrown hc201 d os
                have hr205 := fun d os => cell_regrown hc202 d os
                have hr206 := fun d os => cell_regrown hc203 d os
                have hr207 := fun d os => cell_regrown hca d os
                have hr208 := fun d os => cell_regrown hcb d os
                refine wp_region_quiet_below (by kernel_rfl) (by kernel_rfl) ?_
                repeat (any_goals (first | go_big_quiet_step (fail) | quiet_step (fail)))
                refine wpQuiet_nil ?_
                intro w11 hw11
                have hb11 := below_anyY hw11
                clear hw11 hr204 hr205 hr206 hr207 hr208
                clear hc201 hc202 hc203 hca hcb
                have HF209 := Lib.hid (blk_below HC2.out hb11)
                have HB210 := Lib.hid (HB2.out.trans (hb11.mono HB2.out.size))
                clear hb11 HB2 HC2
                have hc211 : w11.cell? ⟨w.heap.size, 0, none⟩ = some (.int .i64 lv) := by rw [cell_of_row _ _ _ _ _ _ HF209.out]; rfl
                have hc212 : w11.cell? ⟨w.heap.size, 1, none⟩ = some (.slice (some ⟨b, off, none⟩) en ec) := by rw [cell_of_row _ _ _ _ _ _ HF209.out]; rfl
                have hc213 : w11.cell? ⟨w.heap.size, 2, none⟩ = some (.slice ca cn cc) := by rw [cell_of_row _ _ _ _ _ _ HF209.out]; rfl
                go_wp2_with fail
                go_ret
                exact ⟨by first | (rw [← HR.out]; done) | (rw [← HR.out]; rfl), HB210.out⟩
              have e1 : decide ((s.size : Int) < 1) = false := decide_eq_false (by omega)
              by_cases g2 : 64 < s.size
              · have e2 : decide ((64 : Int) < (s.size : Int)) = true := decide_eq_true (by omega)
                have HR := Lib.hid (show (2 : Int) = chW lv es cs by rw [← HV.out, ← HS.out, HA2.out, if_pos (by unfold okE; rw [decide_eq_false (show ¬ (1 ≤ s.size ∧ s.size ≤ 64) by omega)]; rfl)])
                have hc201 : wr.cell? ⟨w.heap.size, 0, none⟩ = some (.int .i64 lv) := by rw [cell_of_row _ _ _ _ _ _ HC2.out]; rfl
                have hc202 : wr.cell? ⟨w.heap.size, 1, none⟩ = some (.slice (some ⟨b, off, none⟩) en ec) := by rw [cell_of_row _ _ _ _ _ _ HC2.out]; rfl
                have hc203 : wr.cell? ⟨w.heap.size, 2, none⟩ = some (.slice ca cn cc) := by rw [cell_of_row _ _ _ _ _ _ HC2.out]; rfl
                go_wp2_with fail
                have hr204 := fun d os => cell_regrown hc201 d os
                have hr205 := fun d os => cell_regrown hc202 d os
                have hr206 := fun d os => cell_regrown hc203 d os
                have hr207 := fun d os => cell_regrown hca d os
                have hr208 := fun d os => cell_regrown hcb d os
                refine wp_region_quiet_below (by kernel_rfl) (by kernel_rfl) ?_
                repeat (any_goals (first | go_big_quiet_step (fail) | quiet_step (fail)))
                refine wpQuiet_nil ?_
                intro w11 hw11
                have hb11 := below_anyY hw11
                clear hw11 hr204 hr205 hr206 hr207 hr208
                clear hc201 hc202 hc203 hca hcb
                have HF209 := Lib.hid (blk_below HC2.out hb11)
                have HB210 := Lib.hid (HB2.out.trans (hb11.mono HB2.out.size))
                clear hb11 HB2 HC2
                have hc211 : w11.cell? ⟨w.heap.size, 0, none⟩ = some (.int .i64 lv) := by rw [cell_of_row _ _ _ _ _ _ HF209.out]; rfl
                have hc212 : w11.cell? ⟨w.heap.size, 1, none⟩ = some (.slice (some ⟨b, off, none⟩) en ec) := by rw [cell_of_row _ _ _ _ _ _ HF209.out]; rfl
                have hc213 : w11.cell? ⟨w.heap.size, 2, none⟩ = some (.slice ca cn cc) := by rw [cell_of_row _ _ _ _ _ _ HF209.out]; rfl
                go_wp2_with fail
                go_ret
                exact ⟨by first | (rw [← HR.out]; done) | (rw [← HR.out]; rfl), HB210.out⟩
              have e2 : decide ((64 : Int) < (s.size : Int)) = false := decide_eq_false (by omega)
              by_cases g3 : 2048 < v.size
              · have e3 : decide ((2048 : Int) < (v.size : Int)) = true := decide_eq_true (by omega)
                have HR := Lib.hid (show (2 : Int) = chW lv es cs by rw [← HV.out, ← HS.out, HA2.out, if_pos (by unfold okE; unfold haveB; rw [if_neg (by have := HL0.out; omega), decide_eq_false (show ¬ v.size ≤ 2048 by omega), Bool.and_false])])
                have hc201 : wr.cell? ⟨w.heap.size, 0, none⟩ = some (.int .i64 lv) := by rw [cell_of_row _ _ _ _ _ _ HC2.out]; rfl
                have hc202 : wr.cell? ⟨w.heap.size, 1, none⟩ = some (.slice (some ⟨b, off, none⟩) en ec) := by rw [cell_of_row _ _ _ _ _ _ HC2.out]; rfl
                have hc203 : wr.cell? ⟨w.heap.size, 2, none⟩ = some (.slice ca cn cc) := by rw [cell_of_row _ _ _ _ _ _ HC2.out]; rfl
                go_wp2_with fail
                have hr204 := fun d os => cell_regrown hc201 d os
                have hr205 := fun d os => cell_regrown hc202 d os
                have hr206 := fun d os => cell_regrown hc203 d os
                have hr207 := fun d os => cell_regrown hca d os
                have hr208 := fun d os => cell_regrown hcb d os
                refine wp_region_quiet_below (by kernel_rfl) (by kernel_rfl) ?_
                repeat (any_goals (first | go_big_quiet_step (fail) | quiet_step (fail)))
                refine wpQuiet_nil ?_
                intro w11 hw11
                have hb11 := below_anyY hw11
                clear hw11 hr204 hr205 hr206 hr207 hr208
                clear hc201 hc202 hc203 hca hcb
                have HF209 := Lib.hid (blk_below HC2.out hb11)
                have HB210 := Lib.hid (HB2.out.trans (hb11.mono HB2.out.size))
                clear hb11 HB2 HC2
                have hc211 : w11.cell? ⟨w.heap.size, 0, none⟩ = some (.int .i64 lv) := by rw [cell_of_row _ _ _ _ _ _ HF209.out]; rfl
                have hc212 : w11.cell? ⟨w.heap.size, 1, none⟩ = some (.slice (some ⟨b, off, none⟩) en ec) := by rw [cell_of_row _ _ _ _ _ _ HF209.out]; rfl
                have hc213 : w11.cell? ⟨w.heap.size, 2, none⟩ = some (.slice ca cn cc) := by rw [cell_of_row _ _ _ _ _ _ HF209.out]; rfl
                go_wp2_with fail
                go_ret
                exact ⟨by first | (rw [← HR.out]; done) | (rw [← HR.out]; rfl), HB210.out⟩
              have e3 : decide ((2048 : Int) < (v.size : Int)) = false := decide_eq_false (by omega)
              have HOK : Hid (okE lv (s, v) = true) := Lib.hid (by unfold okE haveB; rw [if_neg (by have := HL0.out; omega), decide_eq_true (show 1 ≤ s.size ∧ s.size ≤ 64 by omega), decide_eq_true (show v.size ≤ 2048 by omega)]; rfl)
              have HCA := Lib.hid hca
              rcases Nat.eq_zero_or_pos j with h0 | hpos
              · subst h0
                have HR := Lib.hid (show entW lv (prevK es (0 + 1)) (es.drop (0 + 1)) = entW lv none es by rw [← HS.out, HA2.out, if_neg (by rw [HOK.out]; simp), if_neg (by simp [prevK, ordB])])
                have hca' : wr.cell? ⟨b, off, none⟩ = some (.string s) := by simpa using hca
                have hcb' : wr.cell? ⟨b, off + 1, none⟩ = some (.string v) := by simpa using hcb
                clear hca hcb
                have hc201 : wr.cell? ⟨w.heap.size, 0, none⟩ = some (.int .i64 lv) := by rw [cell_of_row _ _ _ _ _ _ HC2.out]; rfl
                have hc202 : wr.cell? ⟨w.heap.size, 1, none⟩ = some (.slice (some ⟨b, off, none⟩) en ec) := by rw [cell_of_row _ _ _ _ _ _ HC2.out]; rfl
                have hc203 : wr.cell? ⟨w.heap.size, 2, none⟩ = some (.slice ca cn cc) := by rw [cell_of_row _ _ _ _ _ _ HC2.out]; rfl
                go_wp2_with fail
                have hr204 := fun d os => cell_regrown hc201 d os
                have hr205 := fun d os => cell_regrown hc202 d os
                have hr206 := fun d os => cell_regrown hc203 d os
                have hr207 := fun d os => cell_regrown hca' d os
                have hr208 := fun d os => cell_regrown hcb' d os
                refine wp_region_quiet_below (by kernel_rfl) (by kernel_rfl) ?_
                repeat (any_goals (first | go_big_quiet_step (fail) | quiet_step (fail)))
                refine wpQuiet_nil ?_
                intro w11 hw11
                have hb11 := below_anyY hw11
                clear hw11 hr204 hr205 hr206 hr207 hr208
                clear hc201 hc202 hc203 hca' hcb'
                have HF209 := Lib.hid (blk_below HC2.out hb11)
                have HB210 := Lib.hid (HB2.out.trans (hb11.mono HB2.out.size))
                clear hb11 HB2 HC2
                have hc211 : w11.cell? ⟨w.heap.size, 0, none⟩ = some (.int .i64 lv) := by rw [cell_of_row _ _ _ _ _ _ HF209.out]; rfl
                have hc212 : w11.cell? ⟨w.heap.size, 1, none⟩ = some (.slice (some ⟨b, off, none⟩) en ec) := by rw [cell_of_row _ _ _ _ _ _ HF209.out]; rfl
                have hc213 : w11.cell? ⟨w.heap.size, 2, none⟩ = some (.slice ca cn cc) := by rw [cell_of_row _ _ _ _ _ _ HF209.out]; rfl
                go_wp2_with fail
                have hr214 := fun d os => cell_regrown hc211 d os
                have hr215 := fun d os => cell_regrown hc212 d os
                have hr216 := fun d os => cell_regrown hc213 d os
                refine wp_region_quiet_below (by kernel_rfl) (by kernel_rfl) ?_
                repeat (any_goals (first | go_big_quiet_step (fail) | quiet_step (fail)))
                refine wpQuiet_nil ?_
                intro w12 hw12
                have hb12 := below_anyY hw12
                clear hw12 hr214 hr215 hr216
                clear hc211 hc212 hc213
                have HF217 := Lib.hid (blk_below HF209.out hb12)
                have HB218 := Lib.hid (HB210.out.trans (hb12.mono HB210.out.size))
                clear hb12 HB210 HF209
                go_wp2_with fail
                go_roundw
                case rel => exact ⟨_, by go_num, by omega, HR.out, HF217.out, HB218.out⟩
                case measure => simp [intOf] <;> omega
              · obtain ⟨m, rfl⟩ : ∃ m, j = m + 1 := ⟨j - 1, by omega⟩
                have hml : m < es.length := by omega
                obtain ⟨b2, off2, hl2, e2', _, hc2⟩ := RE.out.at (k := m) (by omega)
                cases e2'
                have c2 := hc2 0 _ rfl
                obtain ⟨p, hp⟩ : ∃ p, p = es[m].1 := ⟨_, rfl⟩
                rw [← hp] at c2
                have HPK := Lib.hid (show prevK es (m + 1) = some p by show (es[m]?).map (·.1) = _; rw [List.getElem?_eq_getElem hml, hp]; rfl)
                have HPC := Lib.hid (show wr.cell? ⟨b, off + m * 2, none⟩ = some (.string p) from c2)
                clear hc2 c2 hp
                have hi1 : (0 : Int) ≤ (m : Int) := by omega
                have hi2 : (m : Int) < (en : Int) := by omega
                rcases leS_cases s p with ⟨g1', hg⟩ | ⟨g1', g2', hg⟩ | ⟨g1', g2', hg⟩
                · have HR := Lib.hid (show (4 : Int) = chW lv es cs by rw [← HV.out, ← HS.out, HA2.out, if_neg (by rw [HOK.out]; simp), if_pos (by rw [HPK.out]; simp [ordB, hg])])
                  clear hg
                  have hc201 : wr.cell? ⟨w.heap.size, 0, none⟩ = some (.int .i64 lv) := by rw [cell_of_row _ _ _ _ _ _ HC2.out]; rfl
                  have hc202 : wr.cell? ⟨w.heap.size, 1, none⟩ = some (.slice (some ⟨b, off, none⟩) en ec) := by rw [cell_of_row _ _ _ _ _ _ HC2.out]; rfl
                  have hc203 : wr.cell? ⟨w.heap.size, 2, none⟩ = some (.slice ca cn cc) := by rw [cell_of_row _ _ _ _ _ _ HC2.out]; rfl
                  go_wp2_with fail
                  have hr204 := fun d os => cell_regrown hc201 d os
                  have hr205 := fun d os => cell_regrown hc202 d os
                  have hr206 := fun d os => cell_regrown hc203 d os
                  have hr207 := fun d os => cell_regrown hca d os
                  have hr208 := fun d os => cell_regrown hcb d os
                  refine wp_region_quiet_below (by kernel_rfl) (by kernel_rfl) ?_
                  repeat (any_goals (first | go_big_quiet_step (fail) | quiet_step (fail)))
                  refine wpQuiet_nil ?_
                  intro w11 hw11
                  have hb11 := below_anyY hw11
                  have HBX := Lib.hid hb11
                  clear hw11 hr204 hr205 hr206 hr207 hr208
                  clear hc201 hc202 hc203 hca hcb
                  have HF209 := Lib.hid (blk_below HC2.out hb11)
                  have HB210 := Lib.hid (HB2.out.trans (hb11.mono HB2.out.size))
                  clear hb11 HB2 HC2
                  have hc211 : w11.cell? ⟨w.heap.size, 0, none⟩ = some (.int .i64 lv) := by rw [cell_of_row _ _ _ _ _ _ HF209.out]; rfl
                  have hc212 : w11.cell? ⟨w.heap.size, 1, none⟩ = some (.slice (some ⟨b, off, none⟩) en ec) := by rw [cell_of_row _ _ _ _ _ _ HF209.out]; rfl
                  have hc213 : w11.cell? ⟨w.heap.size, 2, none⟩ = some (.slice ca cn cc) := by rw [cell_of_row _ _ _ _ _ _ HF209.out]; rfl
                  have hc1a : w11.cell? ⟨b, off + (m + 1) * 2, none⟩ = some (.string s) := (HBX.out.cell (p := ⟨b, _, none⟩) hbb).trans HCA.out
                  have hc2a : w11.cell? ⟨b, off + m * 2, none⟩ = some (.string p) := (HBX.out.cell (p := ⟨b, _, none⟩) hbb).trans HPC.out
                  go_wp2_with fail
                  have hr214 := fun d os => cell_regrown hc211 d os
                  have hr215 := fun d os => cell_regrown hc212 d os
                  have hr216 := fun d os => cell_regrown hc213 d os
                  have hr217 := fun d os => cell_regrown hc1a d os
                  have hr218 := fun d os => cell_regrown hc2a d os
                  refine wp_region_quiet_below (by kernel_rfl) (by kernel_rfl) ?_
                  repeat (any_goals (first | go_big_quiet_step (fail) | quiet_step (fail)))
                  refine wpQuiet_nil ?_
                  intro w12 hw12
                  have hb12 := below_anyY hw12
                  clear hw12 hr214 hr215 hr216 hr217 hr218
                  clear hc211 hc212 hc213 hc1a hc2a
                  have HF219 := Lib.hid (blk_below HF209.out hb12)
                  have HB220 := Lib.hid (HB210.out.trans (hb12.mono HB210.out.size))
                  clear hb12 HB210 HF209
                  go_wp2_with fail
                  go_ret
                  exact ⟨by first | (rw [← HR.out]; done) | (rw [← HR.out]; rfl), HB220.out⟩
                · have HR := Lib.hid (show (4 : Int) = chW lv es cs by rw [← HV.out, ← HS.out, HA2.out, if_neg (by rw [HOK.out]; simp), if_pos (by rw [HPK.out]; simp [ordB, hg])])
                  clear hg
                  have hc201 : wr.cell? ⟨w.heap.size, 0, none⟩ = some (.int .i64 lv) := by rw [cell_of_row _ _ _ _ _ _ HC2.out]; rfl
                  have hc202 : wr.cell? ⟨w.heap.size, 1, none⟩ = some (.slice (some ⟨b, off, none⟩) en ec) := by rw [cell_of_row _ _ _ _ _ _ HC2.out]; rfl
                  have hc203 : wr.cell? ⟨w.heap.size, 2, none⟩ = some (.slice ca cn cc) := by rw [cell_of_row _ _ _ _ _ _ HC2.out]; rfl
                  go_wp2_with fail
                  have hr204 := fun d os => cell_regrown hc201 d os
                  have hr205 := fun d os => cell_regrown hc202 d os
                  have hr206 := fun d os => cell_regrown hc203 d os
                  have hr207 := fun d os => cell_regrown hca d os
                  have hr208 := fun d os => cell_regrown hcb d os
                  refine wp_region_quiet_below (by kernel_rfl) (by kernel_rfl) ?_
                  repeat (any_goals (first | go_big_quiet_step (fail) | quiet_step (fail)))
                  refine wpQuiet_nil ?_
                  intro w11 hw11
                  have hb11 := below_anyY hw11
                  have HBX := Lib.hid hb11
                  clear hw11 hr204 hr205 hr206 hr207 hr208
                  clear hc201 hc202 hc203 hca hcb
                  have HF209 := Lib.hid (blk_below HC2.out hb11)
                  have HB210 := Lib.hid (HB2.out.trans (hb11.mono HB2.out.size))
                  clear hb11 HB2 HC2
                  have hc211 : w11.cell? ⟨w.heap.size, 0, none⟩ = some (.int .i64 lv) := by rw [cell_of_row _ _ _ _ _ _ HF209.out]; rfl
                  have hc212 : w11.cell? ⟨w.heap.size, 1, none⟩ = some (.slice (some ⟨b, off, none⟩) en ec) := by rw [cell_of_row _ _ _ _ _ _ HF209.out]; rfl
                  have hc213 : w11.cell? ⟨w.heap.size, 2, none⟩ = some (.slice ca cn cc) := by rw [cell_of_row _ _ _ _ _ _ HF209.out]; rfl
                  have hc1a : w11.cell? ⟨b, off + (m + 1) * 2, none⟩ = some (.string s) := (HBX.out.cell (p := ⟨b, _, none⟩) hbb).trans HCA.out
                  have hc2a : w11.cell? ⟨b, off + m * 2, none⟩ = some (.string p) := (HBX.out.cell (p := ⟨b, _, none⟩) hbb).trans HPC.out
                  go_wp2_with fail
                  have hr214 := fun d os => cell_regrown hc211 d os
                  have hr215 := fun d os => cell_regrown hc212 d os
                  have hr216 := fun d os => cell_regrown hc213 d os
                  have hr217 := fun d os => cell_regrown hc1a d os
                  have hr218 := fun d os => cell_regrown hc2a d os
                  refine wp_region_quiet_below (by kernel_rfl) (by kernel_rfl) ?_
                  repeat (any_goals (first | go_big_quiet_step (fail) | quiet_step (fail)))
                  refine wpQuiet_nil ?_
                  intro w12 hw12
                  have hb12 := below_anyY hw12
                  clear hw12 hr214 hr215 hr216 hr217 hr218
                  clear hc211 hc212 hc213 hc1a hc2a
                  have HF219 := Lib.hid (blk_below HF209.out hb12)
                  have HB220 := Lib.hid (HB210.out.trans (hb12.mono HB210.out.size))
                  clear hb12 HB210 HF209
                  go_wp2_with fail
                  go_ret
                  exact ⟨by first | (rw [← HR.out]; done) | (rw [← HR.out]; rfl), HB220.out⟩
                · have HR := Lib.hid (show entW lv (prevK es (m + 1 + 1)) (es.drop (m + 1 + 1)) = entW lv none es by rw [← HS.out, HA2.out, if_neg (by rw [HOK.out]; simp), if_neg (by rw [HPK.out]; simp [ordB, hg])])
                  clear hg
                  have hc201 : wr.cell? ⟨w.heap.size, 0, none⟩ = some (.int .i64 lv) := by rw [cell_of_row _ _ _ _ _ _ HC2.out]; rfl
                  have hc202 : wr.cell? ⟨w.heap.size, 1, none⟩ = some (.slice (some ⟨b, off, none⟩) en ec) := by rw [cell_of_row _ _ _ _ _ _ HC2.out]; rfl
                  have hc203 : wr.cell? ⟨w.heap.size, 2, none⟩ = some (.slice ca cn cc) := by rw [cell_of_row _ _ _ _ _ _ HC2.out]; rfl
                  go_wp2_with fail
                  have hr204 := fun d os => cell_regrown hc201 d os
                  have hr205 := fun d os => cell_regrown hc202 d os
                  have hr206 := fun d os => cell_regrown hc203 d os
                  have hr207 := fun d os => cell_regrown hca d os
                  have hr208 := fun d os => cell_regrown hcb d os
                  refine wp_region_quiet_below (by kernel_rfl) (by kernel_rfl) ?_
                  repeat (any_goals (first | go_big_quiet_step (fail) | quiet_step (fail)))
                  refine wpQuiet_nil ?_
                  intro w11 hw11
                  have hb11 := below_anyY hw11
                  have HBX := Lib.hid hb11
                  clear hw11 hr204 hr205 hr206 hr207 hr208
                  clear hc201 hc202 hc203 hca hcb
                  have HF209 := Lib.hid (blk_below HC2.out hb11)
                  have HB210 := Lib.hid (HB2.out.trans (hb11.mono HB2.out.size))
                  clear hb11 HB2 HC2
                  have hc211 : w11.cell? ⟨w.heap.size, 0, none⟩ = some (.int .i64 lv) := by rw [cell_of_row _ _ _ _ _ _ HF209.out]; rfl
                  have hc212 : w11.cell? ⟨w.heap.size, 1, none⟩ = some (.slice (some ⟨b, off, none⟩) en ec) := by rw [cell_of_row _ _ _ _ _ _ HF209.out]; rfl
                  have hc213 : w11.cell? ⟨w.heap.size, 2, none⟩ = some (.slice ca cn cc) := by rw [cell_of_row _ _ _ _ _ _ HF209.out]; rfl
                  have hc1a : w11.cell? ⟨b, off + (m + 1) * 2, none⟩ = some (.string s) := (HBX.out.cell (p := ⟨b, _, none⟩) hbb).trans HCA.out
                  have hc2a : w11.cell? ⟨b, off + m * 2, none⟩ = some (.string p) := (HBX.out.cell (p := ⟨b, _, none⟩) hbb).trans HPC.out
                  go_wp2_with fail
                  have hr214 := fun d os => cell_regrown hc211 d os
                  have hr215 := fun d os => cell_regrown hc212 d os
                  have hr216 := fun d os => cell_regrown hc213 d os
                  have hr217 := fun d os => cell_regrown hc1a d os
                  have hr218 := fun d os => cell_regrown hc2a d os
                  refine wp_region_quiet_below (by kernel_rfl) (by kernel_rfl) ?_
                  repeat (any_goals (first | go_big_quiet_step (fail) | quiet_step (fail)))
                  refine wpQuiet_nil ?_
                  intro w12 hw12
                  have hb12 := below_anyY hw12
                  clear hw12 hr214 hr215 hr216 hr217 hr218
                  clear hc211 hc212 hc213 hc1a hc2a
                  have HF219 := Lib.hid (blk_below HF209.out hb12)
                  have HB220 := Lib.hid (HB210.out.trans (hb12.mono HB210.out.size))
                  clear hb12 HB210 HF209
                  go_wp2_with fail
                  go_roundw
                  case rel => exact ⟨_, by go_num, by omega, HR.out, HF219.out, HB220.out⟩
                  case measure => simp [intOf] <;> omega
            · have hd1 : decide ((j : Int) < (en : Int)) = false := decide_eq_false (by omega)
              have HR := Lib.hid (show (0 : Int) = chW lv es cs by rw [← HV.out, ← HS.out, entW_end lv es j (by rw [LE.out]; omega)])
              have hc201 : wr.cell? ⟨w.heap.size, 0, none⟩ = some (.int .i64 lv) := by rw [cell_of_row _ _ _ _ _ _ HC2.out]; rfl
              have hc202 : wr.cell? ⟨w.heap.size, 1, none⟩ = some (.slice ea en ec) := by rw [cell_of_row _ _ _ _ _ _ HC2.out]; rfl
              have hc203 : wr.cell? ⟨w.heap.size, 2, none⟩ = some (.slice ca cn cc) := by rw [cell_of_row _ _ _ _ _ _ HC2.out]; rfl
              go_wp2_with fail
              go_ret
              exact ⟨by first | (rw [← HR.out]; done) | (rw [← HR.out]; rfl), HB2.out⟩
  · by_cases h5 : en = 0
    · have d6 : ((en : Int) == 0) = true := by simp; omega
      have d1 : decide (lv < 0) = false := decide_eq_false (by omega)
      have d2 : decide (40 < lv) = false := decide_eq_false (by omega)
      have d3 : decide ((8 : Int) < (en : Int)) = false := decide_eq_false (by omega)
      have d4 : (lv == 0) = false := by simpa using h4
      have d5 : decide (0 < lv) = true := decide_eq_true (by omega)
      have HV := Lib.hid (show (2 : Int) = chW lv es cs by unfold chW; rw [if_pos (by unfold fitB; rw [if_neg (by rw [LE.out]; omega), if_neg h4, if_pos (Or.inl (by rw [LE.out]; exact h5))])])
      clear h5
      have HB1 := Lib.hid (Below.refl w.heap.size w)
      go_enter Try.func140, Try.ntmps140
      have HF2 := Lib.hid (blk_new w (.cells #[.int .i64 lv, .slice ea en ec, .slice ca cn cc] 26 (0, 0)))
      have HB3 := Lib.hid (HB1.out.alloc HB1.out.size (.cells #[.int .i64 lv, .slice ea en ec, .slice ca cn cc] 26 (0, 0)))
      clear HB1
      have hc4 : (w.alloc (.cells #[.int .i64 lv, .slice ea en ec, .slice ca cn cc] 26 (0, 0))).cell? ⟨w.heap.size, 0, none⟩ = some (.int .i64 lv) := by rw [cell_of_row _ _ _ _ _ _ HF2.out]; rfl
      have hc5 : (w.alloc (.cells #[.int .i64 lv, .slice ea en ec, .slice ca cn cc] 26 (0, 0))).cell? ⟨w.heap.size, 1, none⟩ = some (.slice ea en ec) := by rw [cell_of_row _ _ _ _ _ _ HF2.out]; rfl
      have hc6 : (w.alloc (.cells #[.int .i64 lv, .slice ea en ec, .slice ca cn cc] 26 (0, 0))).cell? ⟨w.heap.size, 2, none⟩ = some (.slice ca cn cc) := by rw [cell_of_row _ _ _ _ _ _ HF2.out]; rfl
      go_wp2_with fail
      go_ret
      exact ⟨by first | (rw [← HV.out]; done) | (rw [← HV.out]; rfl), HB3.out⟩
    have d6 : ((en : Int) == 0) = false := by simp; omega
    by_cases h6 : cn = en
    rotate_left
    · have d7 : ((cn : Int) != (en : Int)) = true := by simp; omega
      have d1 : decide (lv < 0) = false := decide_eq_false (by omega)
      have d2 : decide (40 < lv) = false := decide_eq_false (by omega)
      have d3 : decide ((8 : Int) < (en : Int)) = false := decide_eq_false (by omega)
      have d4 : (lv == 0) = false := by simpa using h4
      have d5 : decide (0 < lv) = true := decide_eq_true (by omega)
      have HV := Lib.hid (show (2 : Int) = chW lv es cs by unfold chW; rw [if_pos (by unfold fitB; rw [if_neg (by rw [LE.out]; omega), if_neg h4, if_pos (Or.inr (by rw [LE.out, LC.out]; exact h6))])])
      have HB1 := Lib.hid (Below.refl w.heap.size w)
      go_enter Try.func140, Try.ntmps140
      have HF2 := Lib.hid (blk_new w (.cells #[.int .i64 lv, .slice ea en ec, .slice ca cn cc] 26 (0, 0)))
      have HB3 := Lib.hid (HB1.out.alloc HB1.out.size (.cells #[.int .i64 lv, .slice ea en ec, .slice ca cn cc] 26 (0, 0)))
      clear HB1
      have hc4 : (w.alloc (.cells #[.int .i64 lv, .slice ea en ec, .slice ca cn cc] 26 (0, 0))).cell? ⟨w.heap.size, 0, none⟩ = some (.int .i64 lv) := by rw [cell_of_row _ _ _ _ _ _ HF2.out]; rfl
      have hc5 : (w.alloc (.cells #[.int .i64 lv, .slice ea en ec, .slice ca cn cc] 26 (0, 0))).cell? ⟨w.heap.size, 1, none⟩ = some (.slice ea en ec) := by rw [cell_of_row _ _ _ _ _ _ HF2.out]; rfl
      have hc6 : (w.alloc (.cells #[.int .i64 lv, .slice ea en ec, .slice ca cn cc] 26 (0, 0))).cell? ⟨w.heap.size, 2, none⟩ = some (.slice ca cn cc) := by rw [cell_of_row _ _ _ _ _ _ HF2.out]; rfl
      go_wp2_with fail
      go_ret
      exact ⟨by first | (rw [← HV.out]; done) | (rw [← HV.out]; rfl), HB3.out⟩
    · have d7 : ((cn : Int) != (en : Int)) = false := by simp; omega
      have d1 : decide (lv < 0) = false := decide_eq_false (by omega)
      have d2 : decide (40 < lv) = false := decide_eq_false (by omega)
      have d3 : decide ((8 : Int) < (en : Int)) = false := decide_eq_false (by omega)
      have d4 : (lv == 0) = false := by simpa using h4
      have d5 : decide (0 < lv) = true := decide_eq_true (by omega)
      have HFV := Lib.hid (fitB_val lv es cs (by omega) (by omega) (by rw [LE.out]; omega) (fun h0 => by rw [LC.out]; omega) (fun h0 => by rw [LE.out, LC.out]; omega))
      clear h1 h2 h3
      have HL0 := Lib.hid h4
      clear h4 h5 h6
      have HB1 := Lib.hid (Below.refl w.heap.size w)
      go_enter Try.func140, Try.ntmps140
      have HF2 := Lib.hid (blk_new w (.cells #[.int .i64 lv, .slice ea en ec, .slice ca cn cc] 26 (0, 0)))
      have HB3 := Lib.hid (HB1.out.alloc HB1.out.size (.cells #[.int .i64 lv, .slice ea en ec, .slice ca cn cc] 26 (0, 0)))
      clear HB1
      have hc4 : (w.alloc (.cells #[.int .i64 lv, .slice ea en ec, .slice ca cn cc] 26 (0, 0))).cell? ⟨w.heap.size, 0, none⟩ = some (.int .i64 lv) := by rw [cell_of_row _ _ _ _ _ _ HF2.out]; rfl
      have hc5 : (w.alloc (.cells #[.int .i64 lv, .slice ea en ec, .slice ca cn cc] 26 (0, 0))).cell? ⟨w.heap.size, 1, none⟩ = some (.slice ea en ec) := by rw [cell_of_row _ _ _ _ _ _ HF2.out]; rfl
      have hc6 : (w.alloc (.cells #[.int .i64 lv, .slice ea en ec, .slice ca cn cc] 26 (0, 0))).cell? ⟨w.heap.size, 2, none⟩ = some (.slice ca cn cc) := by rw [cell_of_row _ _ _ _ _ _ HF2.out]; rfl
      go_wp2_with fail
      clear hc4 hc5 hc6
      go_loopw [3] (fun i wr => ∃ k : Nat, i = .int .i64 (k : Int) ∧ k ≤ cn ∧ (cs.take k).any badI = false ∧ wr.heap[w.heap.size]? = some (.cells #[.int .i64 lv, .slice ea en ec, .slice ca cn cc] 26 (0, 0)) ∧ Below w.heap.size w wr) (fun i _ => cn - (intOf i).toNat)
      case atStart => exact ⟨0, rfl, Nat.zero_le _, rfl, HF2.out, HB3.out⟩
      case round =>
        obtain ⟨k, rfl, hk, hany, hbx, hb⟩ := hrel
        have HA := Lib.hid hany
        have HC := Lib.hid hbx
        have HB := Lib.hid hb
        have hCw := lt_of_block hbx
        clear hany hbx hb
        by_cases hlt : k < cn
        · have hd1 : decide ((k : Int) < (cn : Int)) = true := decide_eq_true (by omega)
          obtain ⟨b, off, hl, rfl, hbb, hc⟩ := (H.out.below HB.out).c.at hlt
          have HAT := Lib.hid (any_take cs k hl HA.out)
          obtain ⟨x, hx⟩ : ∃ x, cs[k] = x := ⟨_, rfl⟩
          rw [hx] at hc HAT
          have a0 := hc 0 _ rfl
          rw [Nat.add_zero, Nat.mul_one] at a0
          have hi0 : (0 : Int) ≤ (k : Int) := by omega
          clear hc hx
          by_cases hx1 : x < 1
          · have hv1 : decide (x < 1) = true := decide_eq_true hx1
            have HV := Lib.hid (show (2 : Int) = chW lv es cs by unfold chW; rw [if_pos (by rw [HFV.out, HAT.out.1 (by unfold badI; rw [hv1]; rfl)]; rfl)])
            have hc101 : wr.cell? ⟨w.heap.size, 0, none⟩ = some (.int .i64 lv) := by rw [cell_of_row _ _ _ _ _ _ HC.out]; rfl
            have hc102 : wr.cell? ⟨w.heap.size, 1, none⟩ = some (.slice ea en ec) := by rw [cell_of_row _ _ _ _ _ _ HC.out]; rfl
            have hc103 : wr.cell? ⟨w.heap.size, 2, none⟩ = some (.slice (some ⟨b, off, none⟩) cn cc) := by rw [cell_of_row _ _ _ _ _ _ HC.out]; rfl
            go_wp2_with fail
            go_ret
            exact ⟨by first | (rw [← HV.out]; done) | (rw [← HV.out]; rfl), HB.out⟩
          · have hv1 : decide (x < 1) = false := decide_eq_false hx1
            by_cases hx2 : 2147483648 < x
            · have hv2 : decide (2147483648 < x) = true := decide_eq_true hx2
              have HV := Lib.hid (show (2 : Int) = chW lv es cs by unfold chW; rw [if_pos (by rw [HFV.out, HAT.out.1 (by unfold badI; rw [hv1, hv2]; rfl)]; rfl)])
              have hc101 : wr.cell? ⟨w.heap.size, 0, none⟩ = some (.int .i64 lv) := by rw [cell_of_row _ _ _ _ _ _ HC.out]; rfl
              have hc102 : wr.cell? ⟨w.heap.size, 1, none⟩ = some (.slice ea en ec) := by rw [cell_of_row _ _ _ _ _ _ HC.out]; rfl
              have hc103 : wr.cell? ⟨w.heap.size, 2, none⟩ = some (.slice (some ⟨b, off, none⟩) cn cc) := by rw [cell_of_row _ _ _ _ _ _ HC.out]; rfl
              go_wp2_with fail
              go_ret
              exact ⟨by first | (rw [← HV.out]; done) | (rw [← HV.out]; rfl), HB.out⟩
            · have hv2 : decide (2147483648 < x) = false := decide_eq_false hx2
              have HN := Lib.hid (HAT.out.2 (by unfold badI; rw [hv1, hv2]; rfl))
              have hc101 : wr.cell? ⟨w.heap.size, 0, none⟩ = some (.int .i64 lv) := by rw [cell_of_row _ _ _ _ _ _ HC.out]; rfl
              have hc102 : wr.cell? ⟨w.heap.size, 1, none⟩ = some (.slice ea en ec) := by rw [cell_of_row _ _ _ _ _ _ HC.out]; rfl
              have hc103 : wr.cell? ⟨w.heap.size, 2, none⟩ = some (.slice (some ⟨b, off, none⟩) cn cc) := by rw [cell_of_row _ _ _ _ _ _ HC.out]; rfl
              go_wp2_with fail
              go_roundw
              case rel => exact ⟨k + 1, by go_num, by omega, HN.out, HC.out, HB.out⟩
              case measure => simp [intOf] <;> omega
        · have hd1 : decide ((k : Int) < (cn : Int)) = false := decide_eq_false (by omega)
          have HFT := Lib.hid (show fitB lv es cs = true by
            have := HA.out
            rw [List.take_of_length_le (by rw [LC.out]; omega)] at this
            rw [HFV.out, this]; rfl)
          have HV := Lib.hid (show entW lv none es = chW lv es cs by unfold chW; rw [if_neg (by rw [HFT.out]; simp)])
          have hc101 : wr.cell? ⟨w.heap.size, 0, none⟩ = some (.int .i64 lv) := by rw [cell_of_row _ _ _ _ _ _ HC.out]; rfl
          have hc102 : wr.cell? ⟨w.heap.size, 1, none⟩ = some (.slice ea en ec) := by rw [cell_of_row _ _ _ _ _ _ HC.out]; rfl
          have hc103 : wr.cell? ⟨w.heap.size, 2, none⟩ = some (.slice ca cn cc) := by rw [cell_of_row _ _ _ _ _ _ HC.out]; rfl
          go_wp2_with fail
          clear hc101 hc102 hc103
          clear hd1
          go_loopw [4] (fun i wr => ∃ k : Nat, i = .int .i64 (k : Int) ∧ k ≤ en ∧ entW lv (prevK es k) (es.drop k) = entW lv none es ∧ wr.heap[w.heap.size]? = some (.cells #[.int .i64 lv, .slice ea en ec, .slice ca cn cc] 26 (0, 0)) ∧ Below w.heap.size w wr) (fun i _ => en - (intOf i).toNat)
          case atStart => exact ⟨0, rfl, Nat.zero_le _, rfl, HC.out, HB.out⟩
          case round =>
            obtain ⟨j, rfl, hj, hs, hbx, hb⟩ := hrel
            have HS := Lib.hid hs
            have HC2 := Lib.hid hbx
            have HB2 := Lib.hid hb
            have hCw2 := lt_of_block hbx
            clear hs hbx hb
            by_cases hlt2 : j < en
            · have hd1 : decide ((j : Int) < (en : Int)) = true := decide_eq_true (by omega)
              have RE := Lib.hid (H.out.below HB2.out).e
              obtain ⟨b, off, hl, rfl, hbb, hc⟩ := RE.out.at hlt2
              have HA2 := Lib.hid (entW_at lv es j hl)
              obtain ⟨x, hx⟩ : ∃ x, es[j] = x := ⟨_, rfl⟩
              rw [hx] at hc HA2
              obtain ⟨s, v⟩ := x
              have hca := hc 0 _ rfl
              have hcb := hc 1 _ rfl
              rw [Nat.add_zero] at hca
              have hi0 : (0 : Int) ≤ (j : Int) := by omega
              clear hc hx
              have hs0 : (0 : Int) ≤ (s.size : Int) := by omega
              have hv0 : (0 : Int) ≤ (v.size : Int) := by omega
              by_cases g1 : s.size < 1
              · have e1 : decide ((s.size : Int) < 1) = true := decide_eq_true (by omega)
                have HR := Lib.hid (show (2 : Int) = chW lv es cs by rw [← HV.out, ← HS.out, HA2.out, if_pos (by unfold okE; rw [decide_eq_false (show ¬ (1 ≤ s.size ∧ s.size ≤ 64) by omega)]; rfl)])
                have hc201 : wr.cell? ⟨w.heap.size, 0, none⟩ = some (.int .i64 lv) := by rw [cell_of_row _ _ _ _ _ _ HC2.out]; rfl
                have hc202 : wr.cell? ⟨w.heap.size, 1, none⟩ = some (.slice (some ⟨b, off, none⟩) en ec) := by rw [cell_of_row _ _ _ _ _ _ HC2.out]; rfl
                have hc203 : wr.cell? ⟨w.heap.size, 2, none⟩ = some (.slice ca cn cc) := by rw [cell_of_row _ _ _ _ _ _ HC2.out]; rfl
                go_wp2_with fail
                have hr204 := fun d os => cell_regrown hc201 d os
                have hr205 := fun d os => cell_regrown hc202 d os
                have hr206 := fun d os => cell_regrown hc203 d os
                have hr207 := fun d os => cell_regrown hca d os
                have hr208 := fun d os => cell_regrown hcb d os
                refine wp_region_quiet_below (by kernel_rfl) (by kernel_rfl) ?_
                repeat (any_goals (first | go_big_quiet_step (fail) | quiet_step (fail)))
                refine wpQuiet_nil ?_
                intro w11 hw11
                have hb11 := below_anyY hw11
                clear hw11 hr204 hr205 hr206 hr207 hr208
                clear hc201 hc202 hc203 hca hcb
                have HF209 := Lib.hid (blk_below HC2.out hb11)
                have HB210 := Lib.hid (HB2.out.trans (hb11.mono HB2.out.size))
                clear hb11 HB2 HC2
                have hc211 : w11.cell? ⟨w.heap.size, 0, none⟩ = some (.int .i64 lv) := by rw [cell_of_row _ _ _ _ _ _ HF209.out]; rfl
                have hc212 : w11.cell? ⟨w.heap.size, 1, none⟩ = some (.slice (some ⟨b, off, none⟩) en ec) := by rw [cell_of_row _ _ _ _ _ _ HF209.out]; rfl
                have hc213 : w11.cell? ⟨w.heap.size, 2, none⟩ = some (.slice ca cn cc) := by rw [cell_of_row _ _ _ _ _ _ HF209.out]; rfl
                go_wp2_with fail
                go_ret
                exact ⟨by first | (rw [← HR.out]; done) | (rw [← HR.out]; rfl), HB210.out⟩
              have e1 : decide ((s.size : Int) < 1) = false := decide_eq_false (by omega)
              by_cases g2 : 64 < s.size
              · have e2 : decide ((64 : Int) < (s.size : Int)) = true := decide_eq_true (by omega)
                have HR := Lib.hid (show (2 : Int) = chW lv es cs by rw [← HV.out, ← HS.out, HA2.out, if_pos (by unfold okE; rw [decide_eq_false (show ¬ (1 ≤ s.size ∧ s.size ≤ 64) by omega)]; rfl)])
                have hc201 : wr.cell? ⟨w.heap.size, 0, none⟩ = some (.int .i64 lv) := by rw [cell_of_row _ _ _ _ _ _ HC2.out]; rfl
                have hc202 : wr.cell? ⟨w.heap.size, 1, none⟩ = some (.slice (some ⟨b, off, none⟩) en ec) := by rw [cell_of_row _ _ _ _ _ _ HC2.out]; rfl
                have hc203 : wr.cell? ⟨w.heap.size, 2, none⟩ = some (.slice ca cn cc) := by rw [cell_of_row _ _ _ _ _ _ HC2.out]; rfl
                go_wp2_with fail
                have hr204 := fun d os => cell_regrown hc201 d os
                have hr205 := fun d os => cell_regrown hc202 d os
                have hr206 := fun d os => cell_regrown hc203 d os
                have hr207 := fun d os => cell_regrown hca d os
                have hr208 := fun d os => cell_regrown hcb d os
                refine wp_region_quiet_below (by kernel_rfl) (by kernel_rfl) ?_
                repeat (any_goals (first | go_big_quiet_step (fail) | quiet_step (fail)))
                refine wpQuiet_nil ?_
                intro w11 hw11
                have hb11 := below_anyY hw11
                clear hw11 hr204 hr205 hr206 hr207 hr208
                clear hc201 hc202 hc203 hca hcb
                have HF209 := Lib.hid (blk_below HC2.out hb11)
                have HB210 := Lib.hid (HB2.out.trans (hb11.mono HB2.out.size))
                clear hb11 HB2 HC2
                have hc211 : w11.cell? ⟨w.heap.size, 0, none⟩ = some (.int .i64 lv) := by rw [cell_of_row _ _ _ _ _ _ HF209.out]; rfl
                have hc212 : w11.cell? ⟨w.heap.size, 1, none⟩ = some (.slice (some ⟨b, off, none⟩) en ec) := by rw [cell_of_row _ _ _ _ _ _ HF209.out]; rfl
                have hc213 : w11.cell? ⟨w.heap.size, 2, none⟩ = some (.slice ca cn cc) := by rw [cell_of_row _ _ _ _ _ _ HF209.out]; rfl
                go_wp2_with fail
                go_ret
                exact ⟨by first | (rw [← HR.out]; done) | (rw [← HR.out]; rfl), HB210.out⟩
              have e2 : decide ((64 : Int) < (s.size : Int)) = false := decide_eq_false (by omega)
              by_cases g3 : v.size = 32
              rotate_left
              · have e3 : ((v.size : Int) != 32) = true := by simp; omega
                have HR := Lib.hid (show (2 : Int) = chW lv es cs by rw [← HV.out, ← HS.out, HA2.out, if_pos (by unfold okE; unfold haveB; rw [if_pos (of_decide_eq_true d5), decide_eq_false g3, Bool.and_false])])
                have hc201 : wr.cell? ⟨w.heap.size, 0, none⟩ = some (.int .i64 lv) := by rw [cell_of_row _ _ _ _ _ _ HC2.out]; rfl
                have hc202 : wr.cell? ⟨w.heap.size, 1, none⟩ = some (.slice (some ⟨b, off, none⟩) en ec) := by rw [cell_of_row _ _ _ _ _ _ HC2.out]; rfl
                have hc203 : wr.cell? ⟨w.heap.size, 2, none⟩ = some (.slice ca cn cc) := by rw [cell_of_row _ _ _ _ _ _ HC2.out]; rfl
                go_wp2_with fail
                have hr204 := fun d os => cell_regrown hc201 d os
                have hr205 := fun d os => cell_regrown hc202 d os
                have hr206 := fun d os => cell_regrown hc203 d os
                have hr207 := fun d os => cell_regrown hca d os
                have hr208 := fun d os => cell_regrown hcb d os
                refine wp_region_quiet_below (by kernel_rfl) (by kernel_rfl) ?_
                repeat (any_goals (first | go_big_quiet_step (fail) | quiet_step (fail)))
                refine wpQuiet_nil ?_
                intro w11 hw11
                have hb11 := below_anyY hw11
                clear hw11 hr204 hr205 hr206 hr207 hr208
                clear hc201 hc202 hc203 hca hcb
                have HF209 := Lib.hid (blk_below HC2.out hb11)
                have HB210 := Lib.hid (HB2.out.trans (hb11.mono HB2.out.size))
                clear hb11 HB2 HC2
                have hc211 : w11.cell? ⟨w.heap.size, 0, none⟩ = some (.int .i64 lv) := by rw [cell_of_row _ _ _ _ _ _ HF209.out]; rfl
                have hc212 : w11.cell? ⟨w.heap.size, 1, none⟩ = some (.slice (some ⟨b, off, none⟩) en ec) := by rw [cell_of_row _ _ _ _ _ _ HF209.out]; rfl
                have hc213 : w11.cell? ⟨w.heap.size, 2, none⟩ = some (.slice ca cn cc) := by rw [cell_of_row _ _ _ _ _ _ HF209.out]; rfl
                go_wp2_with fail
                go_ret
                exact ⟨by first | (rw [← HR.out]; done) | (rw [← HR.out]; rfl), HB210.out⟩
              have e3 : ((v.size : Int) != 32) = false := by simp; omega
              have HOK : Hid (okE lv (s, v) = true) := Lib.hid (by unfold okE haveB; rw [if_pos (of_decide_eq_true d5), decide_eq_true (show 1 ≤ s.size ∧ s.size ≤ 64 by omega), decide_eq_true g3]; rfl)
              clear g3
              have HCA := Lib.hid hca
              rcases Nat.eq_zero_or_pos j with h0 | hpos
              · subst h0
                have HR := Lib.hid (show entW lv (prevK es (0 + 1)) (es.drop (0 + 1)) = entW lv none es by rw [← HS.out, HA2.out, if_neg (by rw [HOK.out]; simp), if_neg (by simp [prevK, ordB])])
                have hca' : wr.cell? ⟨b, off, none⟩ = some (.string s) := by simpa using hca
                have hcb' : wr.cell? ⟨b, off + 1, none⟩ = some (.string v) := by simpa using hcb
                clear hca hcb
                have hc201 : wr.cell? ⟨w.heap.size, 0, none⟩ = some (.int .i64 lv) := by rw [cell_of_row _ _ _ _ _ _ HC2.out]; rfl
                have hc202 : wr.cell? ⟨w.heap.size, 1, none⟩ = some (.slice (some ⟨b, off, none⟩) en ec) := by rw [cell_of_row _ _ _ _ _ _ HC2.out]; rfl
                have hc203 : wr.cell? ⟨w.heap.size, 2, none⟩ = some (.slice ca cn cc) := by rw [cell_of_row _ _ _ _ _ _ HC2.out]; rfl
                go_wp2_with fail
                have hr204 := fun d os => cell_regrown hc201 d os
                have hr205 := fun d os => cell_regrown hc202 d os
                have hr206 := fun d os => cell_regrown hc203 d os
                have hr207 := fun d os => cell_regrown hca' d os
                have hr208 := fun d os => cell_regrown hcb' d os
                refine wp_region_quiet_below (by kernel_rfl) (by kernel_rfl) ?_
                repeat (any_goals (first | go_big_quiet_step (fail) | quiet_step (fail)))
                refine wpQuiet_nil ?_
                intro w11 hw11
                have hb11 := below_anyY hw11
                clear hw11 hr204 hr205 hr206 hr207 hr208
                clear hc201 hc202 hc203 hca' hcb'
                have HF209 := Lib.hid (blk_below HC2.out hb11)
                have HB210 := Lib.hid (HB2.out.trans (hb11.mono HB2.out.size))
                clear hb11 HB2 HC2
                have hc211 : w11.cell? ⟨w.heap.size, 0, none⟩ = some (.int .i64 lv) := by rw [cell_of_row _ _ _ _ _ _ HF209.out]; rfl
                have hc212 : w11.cell? ⟨w.heap.size, 1, none⟩ = some (.slice (some ⟨b, off, none⟩) en ec) := by rw [cell_of_row _ _ _ _ _ _ HF209.out]; rfl
                have hc213 : w11.cell? ⟨w.heap.size, 2, none⟩ = some (.slice ca cn cc) := by rw [cell_of_row _ _ _ _ _ _ HF209.out]; rfl
                go_wp2_with fail
                have hr214 := fun d os => cell_regrown hc211 d os
                have hr215 := fun d os => cell_regrown hc212 d os
                have hr216 := fun d os => cell_regrown hc213 d os
                refine wp_region_quiet_below (by kernel_rfl) (by kernel_rfl) ?_
                repeat (any_goals (first | go_big_quiet_step (fail) | quiet_step (fail)))
                refine wpQuiet_nil ?_
                intro w12 hw12
                have hb12 := below_anyY hw12
                clear hw12 hr214 hr215 hr216
                clear hc211 hc212 hc213
                have HF217 := Lib.hid (blk_below HF209.out hb12)
                have HB218 := Lib.hid (HB210.out.trans (hb12.mono HB210.out.size))
                clear hb12 HB210 HF209
                go_wp2_with fail
                go_roundw
                case rel => exact ⟨_, by go_num, by omega, HR.out, HF217.out, HB218.out⟩
                case measure => simp [intOf] <;> omega
              · obtain ⟨m, rfl⟩ : ∃ m, j = m + 1 := ⟨j - 1, by omega⟩
                have hml : m < es.length := by omega
                obtain ⟨b2, off2, hl2, e2', _, hc2⟩ := RE.out.at (k := m) (by omega)
                cases e2'
                have c2 := hc2 0 _ rfl
                obtain ⟨p, hp⟩ : ∃ p, p = es[m].1 := ⟨_, rfl⟩
                rw [← hp] at c2
                have HPK := Lib.hid (show prevK es (m + 1) = some p by show (es[m]?).map (·.1) = _; rw [List.getElem?_eq_getElem hml, hp]; rfl)
                have HPC := Lib.hid (show wr.cell? ⟨b, off + m * 2, none⟩ = some (.string p) from c2)
                clear hc2 c2 hp
                have hi1 : (0 : Int) ≤ (m : Int) := by omega
                have hi2 : (m : Int) < (en : Int) := by omega
                rcases leS_cases s p with ⟨g1', hg⟩ | ⟨g1', g2', hg⟩ | ⟨g1', g2', hg⟩
                · have HR := Lib.hid (show (4 : Int) = chW lv es cs by rw [← HV.out, ← HS.out, HA2.out, if_neg (by rw [HOK.out]; simp), if_pos (by rw [HPK.out]; simp [ordB, hg])])
                  clear hg
                  have hc201 : wr.cell? ⟨w.heap.size, 0, none⟩ = some (.int .i64 lv) := by rw [cell_of_row _ _ _ _ _ _ HC2.out]; rfl
                  have hc202 : wr.cell? ⟨w.heap.size, 1, none⟩ = some (.slice (some ⟨b, off, none⟩) en ec) := by rw [cell_of_row _ _ _ _ _ _ HC2.out]; rfl
                  have hc203 : wr.cell? ⟨w.heap.size, 2, none⟩ = some (.slice ca cn cc) := by rw [cell_of_row _ _ _ _ _ _ HC2.out]; rfl
                  go_wp2_with fail
                  have hr204 := fun d os => cell_regrown hc201 d os
                  have hr205 := fun d os => cell_regrown hc202 d os
                  have hr206 := fun d os => cell_regrown hc203 d os
                  have hr207 := fun d os => cell_regrown hca d os
                  have hr208 := fun d os => cell_regrown hcb d os
                  refine wp_region_quiet_below (by kernel_rfl) (by kernel_rfl) ?_
                  repeat (any_goals (first | go_big_quiet_step (fail) | quiet_step (fail)))
                  refine wpQuiet_nil ?_
                  intro w11 hw11
                  have hb11 := below_anyY hw11
                  have HBX := Lib.hid hb11
                  clear hw11 hr204 hr205 hr206 hr207 hr208
                  clear hc201 hc202 hc203 hca hcb
                  have HF209 := Lib.hid (blk_below HC2.out hb11)
                  have HB210 := Lib.hid (HB2.out.trans (hb11.mono HB2.out.size))
                  clear hb11 HB2 HC2
                  have hc211 : w11.cell? ⟨w.heap.size, 0, none⟩ = some (.int .i64 lv) := by rw [cell_of_row _ _ _ _ _ _ HF209.out]; rfl
                  have hc212 : w11.cell? ⟨w.heap.size, 1, none⟩ = some (.slice (some ⟨b, off, none⟩) en ec) := by rw [cell_of_row _ _ _ _ _ _ HF209.out]; rfl
                  have hc213 : w11.cell? ⟨w.heap.size, 2, none⟩ = some (.slice ca cn cc) := by rw [cell_of_row _ _ _ _ _ _ HF209.out]; rfl
                  have hc1a : w11.cell? ⟨b, off + (m + 1) * 2, none⟩ = some (.string s) := (HBX.out.cell (p := ⟨b, _, none⟩) hbb).trans HCA.out
                  have hc2a : w11.cell? ⟨b, off + m * 2, none⟩ = some (.string p) := (HBX.out.cell (p := ⟨b, _, none⟩) hbb).trans HPC.out
                  go_wp2_with fail
                  have hr214 := fun d os => cell_regrown hc211 d os
                  have hr215 := fun d os => cell_regrown hc212 d os
                  have hr216 := fun d os => cell_regrown hc213 d os
                  have hr217 := fun d os => cell_regrown hc1a d os
                  have hr218 := fun d os => cell_regrown hc2a d os
                  refine wp_region_quiet_below (by kernel_rfl) (by kernel_rfl) ?_
                  repeat (any_goals (first | go_big_quiet_step (fail) | quiet_step (fail)))
                  refine wpQuiet_nil ?_
                  intro w12 hw12
                  have hb12 := below_anyY hw12
                  clear hw12 hr214 hr215 hr216 hr217 hr218
                  clear hc211 hc212 hc213 hc1a hc2a
                  have HF219 := Lib.hid (blk_below HF209.out hb12)
                  have HB220 := Lib.hid (HB210.out.trans (hb12.mono HB210.out.size))
                  clear hb12 HB210 HF209
                  go_wp2_with fail
                  go_ret
                  exact ⟨by first | (rw [← HR.out]; done) | (rw [← HR.out]; rfl), HB220.out⟩
                · have HR := Lib.hid (show (4 : Int) = chW lv es cs by rw [← HV.out, ← HS.out, HA2.out, if_neg (by rw [HOK.out]; simp), if_pos (by rw [HPK.out]; simp [ordB, hg])])
                  clear hg
                  have hc201 : wr.cell? ⟨w.heap.size, 0, none⟩ = some (.int .i64 lv) := by rw [cell_of_row _ _ _ _ _ _ HC2.out]; rfl
                  have hc202 : wr.cell? ⟨w.heap.size, 1, none⟩ = some (.slice (some ⟨b, off, none⟩) en ec) := by rw [cell_of_row _ _ _ _ _ _ HC2.out]; rfl
                  have hc203 : wr.cell? ⟨w.heap.size, 2, none⟩ = some (.slice ca cn cc) := by rw [cell_of_row _ _ _ _ _ _ HC2.out]; rfl
                  go_wp2_with fail
                  have hr204 := fun d os => cell_regrown hc201 d os
                  have hr205 := fun d os => cell_regrown hc202 d os
                  have hr206 := fun d os => cell_regrown hc203 d os
                  have hr207 := fun d os => cell_regrown hca d os
                  have hr208 := fun d os => cell_regrown hcb d os
                  refine wp_region_quiet_below (by kernel_rfl) (by kernel_rfl) ?_
                  repeat (any_goals (first | go_big_quiet_step (fail) | quiet_step (fail)))
                  refine wpQuiet_nil ?_
                  intro w11 hw11
                  have hb11 := below_anyY hw11
                  have HBX := Lib.hid hb11
                  clear hw11 hr204 hr205 hr206 hr207 hr208
                  clear hc201 hc202 hc203 hca hcb
                  have HF209 := Lib.hid (blk_below HC2.out hb11)
                  have HB210 := Lib.hid (HB2.out.trans (hb11.mono HB2.out.size))
                  clear hb11 HB2 HC2
                  have hc211 : w11.cell? ⟨w.heap.size, 0, none⟩ = some (.int .i64 lv) := by rw [cell_of_row _ _ _ _ _ _ HF209.out]; rfl
                  have hc212 : w11.cell? ⟨w.heap.size, 1, none⟩ = some (.slice (some ⟨b, off, none⟩) en ec) := by rw [cell_of_row _ _ _ _ _ _ HF209.out]; rfl
                  have hc213 : w11.cell? ⟨w.heap.size, 2, none⟩ = some (.slice ca cn cc) := by rw [cell_of_row _ _ _ _ _ _ HF209.out]; rfl
                  have hc1a : w11.cell? ⟨b, off + (m + 1) * 2, none⟩ = some (.string s) := (HBX.out.cell (p := ⟨b, _, none⟩) hbb).trans HCA.out
                  have hc2a : w11.cell? ⟨b, off + m * 2, none⟩ = some (.string p) := (HBX.out.cell (p := ⟨b, _, none⟩) hbb).trans HPC.out
                  go_wp2_with fail
                  have hr214 := fun d os => cell_regrown hc211 d os
                  have hr215 := fun d os => cell_regrown hc212 d os
                  have hr216 := fun d os => cell_regrown hc213 d os
                  have hr217 := fun d os => cell_regrown hc1a d os
                  have hr218 := fun d os => cell_regrown hc2a d os
                  refine wp_region_quiet_below (by kernel_rfl) (by kernel_rfl) ?_
                  repeat (any_goals (first | go_big_quiet_step (fail) | quiet_step (fail)))
                  refine wpQuiet_nil ?_
                  intro w12 hw12
                  have hb12 := below_anyY hw12
                  clear hw12 hr214 hr215 hr216 hr217 hr218
                  clear hc211 hc212 hc213 hc1a hc2a
                  have HF219 := Lib.hid (blk_below HF209.out hb12)
                  have HB220 := Lib.hid (HB210.out.trans (hb12.mono HB210.out.size))
                  clear hb12 HB210 HF209
                  go_wp2_with fail
                  go_ret
                  exact ⟨by first | (rw [← HR.out]; done) | (rw [← HR.out]; rfl), HB220.out⟩
                · have HR := Lib.hid (show entW lv (prevK es (m + 1 + 1)) (es.drop (m + 1 + 1)) = entW lv none es by rw [← HS.out, HA2.out, if_neg (by rw [HOK.out]; simp), if_neg (by rw [HPK.out]; simp [ordB, hg])])
                  clear hg
                  have hc201 : wr.cell? ⟨w.heap.size, 0, none⟩ = some (.int .i64 lv) := by rw [cell_of_row _ _ _ _ _ _ HC2.out]; rfl
                  have hc202 : wr.cell? ⟨w.heap.size, 1, none⟩ = some (.slice (some ⟨b, off, none⟩) en ec) := by rw [cell_of_row _ _ _ _ _ _ HC2.out]; rfl
                  have hc203 : wr.cell? ⟨w.heap.size, 2, none⟩ = some (.slice ca cn cc) := by rw [cell_of_row _ _ _ _ _ _ HC2.out]; rfl
                  go_wp2_with fail
                  have hr204 := fun d os => cell_regrown hc201 d os
                  have hr205 := fun d os => cell_regrown hc202 d os
                  have hr206 := fun d os => cell_regrown hc203 d os
                  have hr207 := fun d os => cell_regrown hca d os
                  have hr208 := fun d os => cell_regrown hcb d os
                  refine wp_region_quiet_below (by kernel_rfl) (by kernel_rfl) ?_
                  repeat (any_goals (first | go_big_quiet_step (fail) | quiet_step (fail)))
                  refine wpQuiet_nil ?_
                  intro w11 hw11
                  have hb11 := below_anyY hw11
                  have HBX := Lib.hid hb11
                  clear hw11 hr204 hr205 hr206 hr207 hr208
                  clear hc201 hc202 hc203 hca hcb
                  have HF209 := Lib.hid (blk_below HC2.out hb11)
                  have HB210 := Lib.hid (HB2.out.trans (hb11.mono HB2.out.size))
                  clear hb11 HB2 HC2
                  have hc211 : w11.cell? ⟨w.heap.size, 0, none⟩ = some (.int .i64 lv) := by rw [cell_of_row _ _ _ _ _ _ HF209.out]; rfl
                  have hc212 : w11.cell? ⟨w.heap.size, 1, none⟩ = some (.slice (some ⟨b, off, none⟩) en ec) := by rw [cell_of_row _ _ _ _ _ _ HF209.out]; rfl
                  have hc213 : w11.cell? ⟨w.heap.size, 2, none⟩ = some (.slice ca cn cc) := by rw [cell_of_row _ _ _ _ _ _ HF209.out]; rfl
                  have hc1a : w11.cell? ⟨b, off + (m + 1) * 2, none⟩ = some (.string s) := (HBX.out.cell (p := ⟨b, _, none⟩) hbb).trans HCA.out
                  have hc2a : w11.cell? ⟨b, off + m * 2, none⟩ = some (.string p) := (HBX.out.cell (p := ⟨b, _, none⟩) hbb).trans HPC.out
                  go_wp2_with fail
                  have hr214 := fun d os => cell_regrown hc211 d os
                  have hr215 := fun d os => cell_regrown hc212 d os
                  have hr216 := fun d os => cell_regrown hc213 d os
                  have hr217 := fun d os => cell_regrown hc1a d os
                  have hr218 := fun d os => cell_regrown hc2a d os
                  refine wp_region_quiet_below (by kernel_rfl) (by kernel_rfl) ?_
                  repeat (any_goals (first | go_big_quiet_step (fail) | quiet_step (fail)))
                  refine wpQuiet_nil ?_
                  intro w12 hw12
                  have hb12 := below_anyY hw12
                  clear hw12 hr214 hr215 hr216 hr217 hr218
                  clear hc211 hc212 hc213 hc1a hc2a
                  have HF219 := Lib.hid (blk_below HF209.out hb12)
                  have HB220 := Lib.hid (HB210.out.trans (hb12.mono HB210.out.size))
                  clear hb12 HB210 HF209
                  go_wp2_with fail
                  go_roundw
                  case rel => exact ⟨_, by go_num, by omega, HR.out, HF219.out, HB220.out⟩
                  case measure => simp [intOf] <;> omega
            · have hd1 : decide ((j : Int) < (en : Int)) = false := decide_eq_false (by omega)
              have HR := Lib.hid (show (0 : Int) = chW lv es cs by rw [← HV.out, ← HS.out, entW_end lv es j (by rw [LE.out]; omega)])
              have hc201 : wr.cell? ⟨w.heap.size, 0, none⟩ = some (.int .i64 lv) := by rw [cell_of_row _ _ _ _ _ _ HC2.out]; rfl
              have hc202 : wr.cell? ⟨w.heap.size, 1, none⟩ = some (.slice ea en ec) := by rw [cell_of_row _ _ _ _ _ _ HC2.out]; rfl
              have hc203 : wr.cell? ⟨w.heap.size, 2, none⟩ = some (.slice ca cn cc) := by rw [cell_of_row _ _ _ _ _ _ HC2.out]; rfl
              go_wp2_with fail
              go_ret
              exact ⟨by first | (rw [← HR.out]; done) | (rw [← HR.out]; rfl), HB2.out⟩
end Go.Proofs.Ytdjjabjegmbmaaa
