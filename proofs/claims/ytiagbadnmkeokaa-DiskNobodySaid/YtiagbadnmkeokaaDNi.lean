/- The disk family, merged for a claim. Conditions as in its parts. -/
import Derived.Test.YtiagbadnmkeokaaDNh
namespace Go.Proofs.Ytiagbadnmkeokaa
open Go.RowKit Vi

theorem may_no1 {SS : List ByteArray} {CC : List Wr} (h : (SS.length : Int) < 16 ∨ 4096 < (SS.length : Int)) : mayI SS CC = false := by
  unfold mayI
  rw [decide_eq_false (by omega)]
  rfl
theorem may_no2 {SS : List ByteArray} {CC : List Wr} (h : 4096 < CC.length) : mayI SS CC = false := by
  unfold mayI
  rw [decide_eq_false (by omega : ¬ CC.length ≤ 4096)]
  simp
theorem may_no3 {SS : List ByteArray} {CC : List Wr} (h : SS.any badS = true) : mayI SS CC = false := by
  unfold mayI
  rw [h]
  simp
theorem may_no4 {SS : List ByteArray} {CC : List Wr} (h : CC.any (badW SS.length) = true) : mayI SS CC = false := by
  unfold mayI
  rw [h]
  simp
theorem may_yes {SS : List ByteArray} {CC : List Wr} (h1 : 16 ≤ (SS.length : Int) ∧ (SS.length : Int) ≤ 4096) (h2 : SS.any badS = false) (h3 : CC.length ≤ 4096) (h4 : CC.any (badW SS.length) = false) : mayI SS CC = true := by
  unfold mayI
  rw [h2, h4, decide_eq_true h1, decide_eq_true h3]
  rfl
set_option maxRecDepth 100000 in
set_option maxHeartbeats 4000000 in
theorem rmay_any (A : Option Addr) (n c : Nat) (A2 : Option Addr) (m c2 : Nat) (SS : List ByteArray) (CC : List Wr) (w : World) (h1 : RdX stC 1 w A n SS) (h2 : RdX wrC 2 w A2 m CC) (hn : n ≤ 100000) (hm : m ≤ 100000) :
    Calls Try.prog 17 #[.agg #[.slice A n c, .slice A2 m c2]] w (RetBl (mayI SS CC) w) := by
  have HB0 := Lib.hid ((Below.refl w.heap.size w).alloc (Nat.le_refl _) (.cells #[.slice A n c, .slice A2 m c2] 32 (0, 0)))
  have HX := Lib.hid (blk_new w (.cells #[.slice A n c, .slice A2 m c2] 32 (0, 0)))
  have H1 := Lib.hid h1
  have H2 := Lib.hid h2
  have hl1 : SS.length = n := h1.1
  have hl2 : CC.length = m := h2.1
  clear h1 h2
  obtain ⟨v, hv⟩ : ∃ v, v = w.alloc (.cells #[.slice A n c, .slice A2 m c2] 32 (0, 0)) := ⟨_, rfl⟩
  have HV := Lib.hid hv
  rw [← hv] at HB0 HX
  clear hv
  have a0 : v.cell? ⟨w.heap.size, 0, none⟩ = some (.slice A n c) := (cell_of_row _ _ 0 _ _ _ HX.out).trans rfl
  have a1 : v.cell? ⟨w.heap.size, 1, none⟩ = some (.slice A2 m c2) := (cell_of_row _ _ 1 _ _ _ HX.out).trans rfl
  by_cases q1 : (n : Int) < 16
  · have HR := Lib.hid (show false = mayI SS CC from (may_no1 (by omega)).symm)
    have t0 : decide ((n : Int) < 16) = true := decide_eq_true (by omega)
    go_enter Try.func17, Try.ntmps17
    go_upto_region 1 with (fail)
    rw [← HV.out]
    go_wp2_with fail
    go_ret
    exact ⟨dk_retB HR.out, HB0.out⟩
  by_cases q2 : 4096 < (n : Int)
  · have HR := Lib.hid (show false = mayI SS CC from (may_no1 (by omega)).symm)
    have t0 : decide ((n : Int) < 16) = false := decide_eq_false (by omega)
    have t1 : decide ((n : Int) > 4096) = true := decide_eq_true (by omega)
    have t2 : decide (4096 < (n : Int)) = true := decide_eq_true (by omega)
    go_enter Try.func17, Try.ntmps17
    go_upto_region 1 with (fail)
    rw [← HV.out]
    go_wp2_with fail
    go_ret
    exact ⟨dk_retB HR.out, HB0.out⟩
  by_cases q3 : 4096 < (m : Int)
  · have HR := Lib.hid (show false = mayI SS CC from (may_no2 (by omega)).symm)
    have t0 : decide ((n : Int) < 16) = false := decide_eq_false (by omega)
    have t1 : decide ((n : Int) > 4096) = false := decide_eq_false (by omega)
    have t2 : decide (4096 < (n : Int)) = false := decide_eq_false (by omega)
    have t3 : decide ((m : Int) > 4096) = true := decide_eq_true (by omega)
    have t4 : decide (4096 < (m : Int)) = true := decide_eq_true (by omega)
    go_enter Try.func17, Try.ntmps17
    go_upto_region 1 with (fail)
    rw [← HV.out]
    go_wp2_with fail
    go_ret
    exact ⟨dk_retB HR.out, HB0.out⟩
  have HL := Lib.hid (And.intro hl1 hl2)
  have t0 : decide ((n : Int) < 16) = false := decide_eq_false (by omega)
  have t1 : decide ((n : Int) > 4096) = false := decide_eq_false (by omega)
  have t2 : decide (4096 < (n : Int)) = false := decide_eq_false (by omega)
  have t3 : decide ((m : Int) > 4096) = false := decide_eq_false (by omega)
  have t4 : decide (4096 < (m : Int)) = false := decide_eq_false (by omega)
  go_enter Try.func17, Try.ntmps17
  go_upto_region 1 with (fail)
  rw [← HV.out]
  go_wp2_with fail
  clear t0 t1 t2 t3 t4 hl1 hl2 HV
  go_loopw [3] (fun i wr => ∃ j : Nat, i = .int .i64 (j : Int) ∧ j ≤ n ∧ Hid ((SS.take j).any badS = false) ∧ Below v.heap.size v wr) (fun i _ => n - (intOf i).toNat)
  case atStart => exact ⟨0, rfl, Nat.zero_le _, Lib.hid rfl, Below.refl _ _⟩
  case round =>
    obtain ⟨j, rfl, hj, HN, hb⟩ := hrel
    have HB := Lib.hid hb
    clear hb a0 a1
    have HX1 := Lib.hid (blk_below HX.out HB.out)
    have HBw := Lib.hid (HB0.out.trans (HB.out.mono HB0.out.size))
    by_cases hlt : j < n
    · have hd1 : decide ((j : Int) < (n : Int)) = true := decide_eq_true (by omega)
      have hi0 : (0 : Int) ≤ (j : Int) := by omega
      have hs1 : IntKind.i64.wrap ((j : Int) + 1) = (j : Int) + 1 := IntWalk.i64_in _ (by omega)
      obtain ⟨ba, oa, hl1, rfl, hba, hca⟩ := (H1.out.below HBw.out).at hlt
      have HT := Lib.hid (any_snocF badS SS j hl1)
      have HA := Lib.hid (any_at badS SS j hl1)
      have c1 : wr.cell? ⟨ba, oa + j, none⟩ = some (.string SS[j]) := by have q := hca 0 (.string SS[j]) rfl; simpa using q
      obtain ⟨s, hs⟩ : ∃ s, s = SS[j] := ⟨_, rfl⟩
      rw [← hs] at HT HA c1
      clear hca hba hs hl1
      have x0 := (cell_of_row _ _ 0 _ _ _ HX1.out).trans (show _ = some (Value.slice (some ⟨ba, oa, none⟩) n c) from rfl)
      by_cases hq : s.size = 128
      · have e1 : ((s.size : Int) != 128) = false := by simp; omega
        have HG := Lib.hid (show badS s = false by unfold badS; rw [decide_eq_true hq]; rfl)
        clear hq
        go_wp2_with fail
        go_roundw
        case rel => exact ⟨j + 1, by go_num, by omega, Lib.hid (by rw [HT.out, HN.out, HG.out]; rfl), HB.out⟩
        case measure => simp [intOf] <;> omega
      · have e1 : ((s.size : Int) != 128) = true := by simp; omega
        have HR := Lib.hid (show false = mayI SS CC from (may_no3 (HA.out (by unfold badS; rw [decide_eq_false hq]; rfl))).symm)
        clear hq
        go_wp2_with fail
        go_ret
        exact ⟨dk_retB HR.out, HBw.out⟩
    · have hd1 : decide ((j : Int) < (n : Int)) = false := decide_eq_false (by omega)
      have HE := Lib.hid (show SS.any badS = false by rw [← HN.out, List.take_of_length_le (by have := HL.out.1; omega)])
      have x0 := (cell_of_row _ _ 0 _ _ _ HX1.out).trans (show _ = some (Value.slice A n c) from rfl)
      go_wp2_with fail
      clear x0
      go_loopw [4] (fun i wr => ∃ j : Nat, i = .int .i64 (j : Int) ∧ j ≤ m ∧ Hid ((CC.take j).any (badW SS.length) = false) ∧ Below v.heap.size v wr) (fun i _ => m - (intOf i).toNat)
      case atStart => exact ⟨0, rfl, Nat.zero_le _, Lib.hid rfl, HB.out⟩
      case round =>
        obtain ⟨j, rfl, hj, HN, hb⟩ := hrel
        clear HB HX1 HBw
        have HB := Lib.hid hb
        clear hb
        have HX1 := Lib.hid (blk_below HX.out HB.out)
        have HBw := Lib.hid (HB0.out.trans (HB.out.mono HB0.out.size))
        by_cases hlt : j < m
        · have hd1 : decide ((j : Int) < (m : Int)) = true := decide_eq_true (by omega)
          have hi0 : (0 : Int) ≤ (j : Int) := by omega
          have hs1 : IntKind.i64.wrap ((j : Int) + 1) = (j : Int) + 1 := IntWalk.i64_in _ (by omega)
          obtain ⟨ba, oa, hl1, rfl, hba, hca⟩ := (H2.out.below HBw.out).at hlt
          have HT := Lib.hid (any_snocF (badW SS.length) CC j hl1)
          have HA := Lib.hid (any_at (badW SS.length) CC j hl1)
          have c1 : wr.cell? ⟨ba, oa + j * 2, none⟩ = some (.int .i64 CC[j].1) := by have q := hca 0 (.int .i64 CC[j].1) rfl; simpa using q
          have c2' := hca 1 (.string CC[j].2) rfl
          obtain ⟨x, hx⟩ : ∃ x, x = CC[j] := ⟨_, rfl⟩
          rw [← hx] at HT HA c1 c2'
          clear hca hba hx hl1
          obtain ⟨p, s⟩ := x
          have c1 : wr.cell? ⟨ba, oa + j * 2, none⟩ = some (.int .i64 p) := c1
          have c2' : wr.cell? ⟨ba, oa + j * 2 + 1, none⟩ = some (.string s) := c2'
          have x0 := (cell_of_row _ _ 0 _ _ _ HX1.out).trans (show _ = some (Value.slice A n c) from rfl)
          have x1 := (cell_of_row _ _ 1 _ _ _ HX1.out).trans (show _ = some (Value.slice (some ⟨ba, oa, none⟩) m c2) from rfl)
          have r1 := fun d os => cell_regrown c1 d os
          have r2 := fun d os => cell_regrown c2' d os
          have r3 := fun d os => cell_regrown x0 d os
          have r4 := fun d os => cell_regrown x1 d os
          by_cases q4 : p < 0
          · have HR := Lib.hid (show false = mayI SS CC from (may_no4 (HA.out (by unfold badW dckE; rw [HL.out.1, if_neg (by omega)]; decide))).symm)
            have e1 : decide (p < 0) = true := decide_eq_true (by omega)
            go_upto_region 11 with (fail)
            refine wp_region_quiet_below (by kernel_rfl) (by kernel_rfl) ?_
            repeat (any_goals (first | go_big_quiet_step (fail) | quiet_step (fail)))
            refine wpQuiet_nil ?_
            intro w2 hw2
            have hb2 := below_anyY hw2
            have HB2 := Lib.hid (HB.out.trans (hb2.mono HB.out.size))
            clear hw2 hb2 c1 c2' r1 r2 r3 r4 x0 x1
            go_wp2_with fail
            go_ret
            exact ⟨dk_retB HR.out, HB0.out.trans (HB2.out.mono HB0.out.size)⟩
          by_cases q5 : (n : Int) ≤ p
          · have HR := Lib.hid (show false = mayI SS CC from (may_no4 (HA.out (by unfold badW dckE; rw [HL.out.1, if_neg (by omega)]; decide))).symm)
            have e1 : decide (p < 0) = false := decide_eq_false (by omega)
            have e2 : decide ((n : Int) ≤ p) = true := decide_eq_true (by omega)
            have e2' : decide (p ≥ (n : Int)) = true := decide_eq_true (by omega)
            go_upto_region 11 with (fail)
            refine wp_region_quiet_below (by kernel_rfl) (by kernel_rfl) ?_
            repeat (any_goals (first | go_big_quiet_step (fail) | quiet_step (fail)))
            refine wpQuiet_nil ?_
            intro w2 hw2
            have hb2 := below_anyY hw2
            have HB2 := Lib.hid (HB.out.trans (hb2.mono HB.out.size))
            clear hw2 hb2 c1 c2' r1 r2 r3 r4 x0 x1
            go_wp2_with fail
            go_ret
            exact ⟨dk_retB HR.out, HB0.out.trans (HB2.out.mono HB0.out.size)⟩
          by_cases q6 : s.size = 128
          · have HG := Lib.hid (show badW SS.length (p, s) = false by unfold badW dckE; rw [HL.out.1, if_pos (by omega), if_pos q6]; decide)
            have e1 : decide (p < 0) = false := decide_eq_false (by omega)
            have e2 : decide ((n : Int) ≤ p) = false := decide_eq_false (by omega)
            have e2' : decide (p ≥ (n : Int)) = false := decide_eq_false (by omega)
            have e3 : ((s.size : Int) != 128) = false := by simp; omega
            go_upto_region 11 with (fail)
            refine wp_region_quiet_below (by kernel_rfl) (by kernel_rfl) ?_
            repeat (any_goals (first | go_big_quiet_step (fail) | quiet_step (fail)))
            refine wpQuiet_nil ?_
            intro w2 hw2
            have hb2 := below_anyY hw2
            have HB2 := Lib.hid (HB.out.trans (hb2.mono HB.out.size))
            clear hw2 hb2 c1 c2' r1 r2 r3 r4 x0 x1
            go_wp2_with fail
            go_roundw
            case rel => exact ⟨j + 1, by go_num, by omega, Lib.hid (by rw [HT.out, HN.out, HG.out]; rfl), HB2.out⟩
            case measure => simp [intOf] <;> omega
          · have HR := Lib.hid (show false = mayI SS CC from (may_no4 (HA.out (by unfold badW dckE; rw [HL.out.1, if_pos (by omega), if_neg q6]; decide))).symm)
            have e1 : decide (p < 0) = false := decide_eq_false (by omega)
            have e2 : decide ((n : Int) ≤ p) = false := decide_eq_false (by omega)
            have e2' : decide (p ≥ (n : Int)) = false := decide_eq_false (by omega)
            have e3 : ((s.size : Int) != 128) = true := by simp; omega
            go_upto_region 11 with (fail)
            refine wp_region_quiet_below (by kernel_rfl) (by kernel_rfl) ?_
            repeat (any_goals (first | go_big_quiet_step (fail) | quiet_step (fail)))
            refine wpQuiet_nil ?_
            intro w2 hw2
            have hb2 := below_anyY hw2
            have HB2 := Lib.hid (HB.out.trans (hb2.mono HB.out.size))
            clear hw2 hb2 c1 c2' r1 r2 r3 r4 x0 x1
            go_wp2_with fail
            go_ret
            exact ⟨dk_retB HR.out, HB0.out.trans (HB2.out.mono HB0.out.size)⟩
        · have hd1 : decide ((j : Int) < (m : Int)) = false := decide_eq_false (by omega)
          have HR := Lib.hid (show true = mayI SS CC from (may_yes (by have := HL.out.1; omega) HE.out (by have := HL.out.2; omega) (by rw [← HN.out, List.take_of_length_le (by have := HL.out.2; omega)])).symm)
          have x1 := (cell_of_row _ _ 1 _ _ _ HX1.out).trans (show _ = some (Value.slice A2 m c2) from rfl)
          go_wp2_with fail
          go_ret
          exact ⟨dk_retB HR.out, HBw.out⟩
end Go.Proofs.Ytiagbadnmkeokaa
