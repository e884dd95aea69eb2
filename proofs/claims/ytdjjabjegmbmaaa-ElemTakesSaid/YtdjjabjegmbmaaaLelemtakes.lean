/- The walk of ElemTakes over this translation. Condition: texts that are no longer than a text may be. -/
import Derived.Test.YtdjjabjegmbmaaaElt
namespace Go.Proofs.Ytdjjabjegmbmaaa.LElemTakes
open Go.RowKit Vi Zp

set_option maxRecDepth 100000 in
set_option maxHeartbeats 8000000 in
theorem walk (i S : ByteArray) (w : World) (hi : i.size ≤ maxLen) :
    Calls Try.prog 7 #[.string i, .string S] w fun e w' => e = .returned (.bool true) ∧ Below w.heap.size w w' := by
  by_cases l1 : 100 < i.size
  · have d1 : decide ((100 : Int) < (i.size : Int)) = true := decide_eq_true (by omega)
    have HB1 := Lib.hid (Below.refl w.heap.size w)
    go_enter Try.func7, Try.ntmps7
    go_wp2_with fail
    refine (awake25 w).mono ?_
    rintro e w1 ⟨rfl, hb1⟩
    have HB2 := Lib.hid (HB1.out.trans (hb1.mono HB1.out.size))
    clear hb1 HB1 
    go_wp2_with fail
    go_ret
    exact ⟨rfl, HB2.out⟩
  have d1 : decide ((100 : Int) < (i.size : Int)) = false := decide_eq_false (by omega)
  by_cases l2 : 3000 < S.size
  · have d2 : decide ((3000 : Int) < (S.size : Int)) = true := decide_eq_true (by omega)
    have HB1 := Lib.hid (Below.refl w.heap.size w)
    go_enter Try.func7, Try.ntmps7
    go_wp2_with fail
    refine (awake25 w).mono ?_
    rintro e w1 ⟨rfl, hb1⟩
    have HB2 := Lib.hid (HB1.out.trans (hb1.mono HB1.out.size))
    clear hb1 HB1 
    go_wp2_with fail
    go_ret
    exact ⟨rfl, HB2.out⟩
  have d2 : decide ((3000 : Int) < (S.size : Int)) = false := decide_eq_false (by omega)
  obtain ⟨j1, lA, psA, z1, b1, k1, k2, hc1, HN1, HN2⟩ := both_n i S hi (by omega)
  obtain ⟨j2, f, h, lB, psB, z2, b2, k3, k4, hc2, HE1, HE2⟩ := both_e i S hi (by omega)
  obtain ⟨n1, hn1⟩ : ∃ n, n = lA.length := ⟨_, rfl⟩
  obtain ⟨n2, hn2⟩ : ∃ n, n = psA.length := ⟨_, rfl⟩
  obtain ⟨n3, hn3⟩ : ∃ n, n = lB.length := ⟨_, rfl⟩
  obtain ⟨n4, hn4⟩ : ∃ n, n = psB.length := ⟨_, rfl⟩
  unfold TkN at HN1 HN2
  unfold TkE at HE1 HE2
  rw [← hn1, ← hn2] at HN1 HN2
  rw [← hn3, ← hn4] at HE1 HE2
  have hn1' : n1 ≤ 8 := by omega
  have hn2' : n2 ≤ 8 := by omega
  have hn3' : n3 ≤ 8 := by omega
  have hn4' : n4 ≤ 8 := by omega
  clear hn1 hn2 hn3 hn4 k1 k2 k3 k4
  rcases hc1 with ⟨rfl, rfl⟩ | ⟨rfl, rfl⟩
  · rcases hc2 with ⟨rfl, rfl⟩ | ⟨rfl, rfl⟩
    · have HB1 := Lib.hid (Below.refl w.heap.size w)
      go_enter Try.func7, Try.ntmps7
      go_wp2_with fail
      refine (HN1.out w).mono ?_
      rintro e w1 ⟨A1, c1, B1, d1, rfl, hlp, hb1⟩
      have HB2 := Lib.hid (HB1.out.trans (hb1.mono (by have := HB1.out.size; simp at this ⊢ <;> omega)))
      clear hb1 HB1 
      have HP1 := Lib.hid hlp
      clear hlp
      have HF3 := Lib.hid (blk_new w1 (.cells #[.string j1, .slice A1 n1 c1, .slice B1 n2 d1] 48 (0, 0)))
      have HB4 := Lib.hid (HB2.out.alloc HB2.out.size (.cells #[.string j1, .slice A1 n1 c1, .slice B1 n2 d1] 48 (0, 0)))
      clear HB2
      have HQ5 := Lib.hid (HP1.out.below ((Below.refl _ w1).alloc (Nat.le_refl _) (.cells #[.string j1, .slice A1 n1 c1, .slice B1 n2 d1] 48 (0, 0))))
      clear HP1
      have hc6 : (w1.alloc (.cells #[.string j1, .slice A1 n1 c1, .slice B1 n2 d1] 48 (0, 0))).cell? ⟨w1.heap.size, 0, none⟩ = some (.string j1) := by rw [cell_of_row _ _ _ _ _ _ HF3.out]; rfl
      have hc7 : (w1.alloc (.cells #[.string j1, .slice A1 n1 c1, .slice B1 n2 d1] 48 (0, 0))).cell? ⟨w1.heap.size, 1, none⟩ = some (.slice A1 n1 c1) := by rw [cell_of_row _ _ _ _ _ _ HF3.out]; rfl
      have hc8 : (w1.alloc (.cells #[.string j1, .slice A1 n1 c1, .slice B1 n2 d1] 48 (0, 0))).cell? ⟨w1.heap.size, 2, none⟩ = some (.slice B1 n2 d1) := by rw [cell_of_row _ _ _ _ _ _ HF3.out]; rfl
      go_wp2_with fail
      clear hc6 hc7 hc8
      refine (HN2.out (w1.alloc (.cells #[.string j1, .slice A1 n1 c1, .slice B1 n2 d1] 48 (0, 0)))).mono ?_
      rintro e w2 ⟨A2, c2, B2, d2, rfl, hlp, hb2⟩
      have HF9 := Lib.hid (blk_below HF3.out hb2)
      have HB10 := Lib.hid (HB4.out.trans (hb2.mono (by have := HB4.out.size; simp at this ⊢ <;> omega)))
      have HQ11 := Lib.hid (HQ5.out.below hb2)
      clear HQ5
      clear hb2 HB4 HF3
      have HP2 := Lib.hid hlp
      clear hlp
      have hk12 : w1.heap.size < w2.heap.size := lt_of_block HF9.out
      have HF13 := Lib.hid (blk_alloc HF9.out (.cells #[.string j1, .slice A2 n1 c2, .slice B2 n2 d2] 48 (0, 0)))
      have HF14 := Lib.hid (blk_new w2 (.cells #[.string j1, .slice A2 n1 c2, .slice B2 n2 d2] 48 (0, 0)))
      have HB15 := Lib.hid (HB10.out.alloc HB10.out.size (.cells #[.string j1, .slice A2 n1 c2, .slice B2 n2 d2] 48 (0, 0)))
      clear HB10
      have HQ16 := Lib.hid (HQ11.out.below ((Below.refl _ w2).alloc (Nat.le_refl _) (.cells #[.string j1, .slice A2 n1 c2, .slice B2 n2 d2] 48 (0, 0))))
      clear HQ11
      have HQ17 := Lib.hid (HP2.out.below ((Below.refl _ w2).alloc (Nat.le_refl _) (.cells #[.string j1, .slice A2 n1 c2, .slice B2 n2 d2] 48 (0, 0))))
      clear HP2
      have hc18 : (w2.alloc (.cells #[.string j1, .slice A2 n1 c2, .slice B2 n2 d2] 48 (0, 0))).cell? ⟨w1.heap.size, 0, none⟩ = some (.string j1) := by rw [cell_of_row _ _ _ _ _ _ HF13.out]; rfl
      have hc19 : w2.cell? ⟨w1.heap.size, 0, none⟩ = some (.string j1) := by rw [cell_of_row _ _ _ _ _ _ HF9.out]; rfl
      have hc20 : (w2.alloc (.cells #[.string j1, .slice A2 n1 c2, .slice B2 n2 d2] 48 (0, 0))).cell? ⟨w1.heap.size, 1, none⟩ = some (.slice A1 n1 c1) := by rw [cell_of_row _ _ _ _ _ _ HF13.out]; rfl
      have hc21 : w2.cell? ⟨w1.heap.size, 1, none⟩ = some (.slice A1 n1 c1) := by rw [cell_of_row _ _ _ _ _ _ HF9.out]; rfl
      have hc22 : (w2.alloc (.cells #[.string j1, .slice A2 n1 c2, .slice B2 n2 d2] 48 (0, 0))).cell? ⟨w1.heap.size, 2, none⟩ = some (.slice B1 n2 d1) := by rw [cell_of_row _ _ _ _ _ _ HF13.out]; rfl
      have hc23 : w2.cell? ⟨w1.heap.size, 2, none⟩ = some (.slice B1 n2 d1) := by rw [cell_of_row _ _ _ _ _ _ HF9.out]; rfl
      have hl24 : w1.heap.size < w2.heap.size := lt_of_block HF9.out
      have hl25 : ¬ w1.heap.size = w2.heap.size := by omega
      have hc26 : (w2.alloc (.cells #[.string j1, .slice A2 n1 c2, .slice B2 n2 d2] 48 (0, 0))).cell? ⟨w2.heap.size, 0, none⟩ = some (.string j1) := by rw [cell_of_row _ _ _ _ _ _ HF14.out]; rfl
      have hc27 : (w2.alloc (.cells #[.string j1, .slice A2 n1 c2, .slice B2 n2 d2] 48 (0, 0))).cell? ⟨w2.heap.size, 1, none⟩ = some (.slice A2 n1 c2) := by rw [cell_of_row _ _ _ _ _ _ HF14.out]; rfl
      have hc28 : (w2.alloc (.cells #[.string j1, .slice A2 n1 c2, .slice B2 n2 d2] 48 (0, 0))).cell? ⟨w2.heap.size, 2, none⟩ = some (.slice B2 n2 d2) := by rw [cell_of_row _ _ _ _ _ _ HF14.out]; rfl
      go_wp2_with fail
      clear hc18 hc19 hc20 hc21 hc22 hc23 hl24 hl25 hc26 hc27 hc28
      refine (HE1.out (w2.alloc (.cells #[.string j1, .slice A2 n1 c2, .slice B2 n2 d2] 48 (0, 0)))).mono ?_
      rintro e w3 ⟨A3, c3, B3, d3, rfl, hlp, hb3⟩
      have HF29 := Lib.hid (blk_below HF13.out hb3)
      have HF30 := Lib.hid (blk_below HF14.out hb3)
      have HB31 := Lib.hid (HB15.out.trans (hb3.mono (by have := HB15.out.size; simp at this ⊢ <;> omega)))
      have HQ32 := Lib.hid (HQ16.out.below hb3)
      clear HQ16
      have HQ33 := Lib.hid (HQ17.out.below hb3)
      clear HQ17
      clear hb3 HB15 HF13 HF9 HF14
      have HP3 := Lib.hid hlp
      clear hlp
      have hk34 : w1.heap.size < w3.heap.size := lt_of_block HF29.out
      have hk35 : w2.heap.size < w3.heap.size := lt_of_block HF30.out
      have HF36 := Lib.hid (blk_alloc HF29.out (.cells #[.string j2, .string f, .string h, .slice A3 n3 c3, .slice B3 n4 d3] 59 (0, 0)))
      have HF37 := Lib.hid (blk_alloc HF30.out (.cells #[.string j2, .string f, .string h, .slice A3 n3 c3, .slice B3 n4 d3] 59 (0, 0)))
      have HF38 := Lib.hid (blk_new w3 (.cells #[.string j2, .string f, .string h, .slice A3 n3 c3, .slice B3 n4 d3] 59 (0, 0)))
      have HB39 := Lib.hid (HB31.out.alloc HB31.out.size (.cells #[.string j2, .string f, .string h, .slice A3 n3 c3, .slice B3 n4 d3] 59 (0, 0)))
      clear HB31
      have HQ40 := Lib.hid (HQ32.out.below ((Below.refl _ w3).alloc (Nat.le_refl _) (.cells #[.string j2, .string f, .string h, .slice A3 n3 c3, .slice B3 n4 d3] 59 (0, 0))))
      clear HQ32
      have HQ41 := Lib.hid (HQ33.out.below ((Below.refl _ w3).alloc (Nat.le_refl _) (.cells #[.string j2, .string f, .string h, .slice A3 n3 c3, .slice B3 n4 d3] 59 (0, 0))))
      clear HQ33
      have HQ42 := Lib.hid (HP3.out.below ((Below.refl _ w3).alloc (Nat.le_refl _) (.cells #[.string j2, .string f, .string h, .slice A3 n3 c3, .slice B3 n4 d3] 59 (0, 0))))
      clear HP3
      have hc43 : (w3.alloc (.cells #[.string j2, .string f, .string h, .slice A3 n3 c3, .slice B3 n4 d3] 59 (0, 0))).cell? ⟨w1.heap.size, 0, none⟩ = some (.string j1) := by rw [cell_of_row _ _ _ _ _ _ HF36.out]; rfl
      have hc44 : w3.cell? ⟨w1.heap.size, 0, none⟩ = some (.string j1) := by rw [cell_of_row _ _ _ _ _ _ HF29.out]; rfl
      have hc45 : (w3.alloc (.cells #[.string j2, .string f, .string h, .slice A3 n3 c3, .slice B3 n4 d3] 59 (0, 0))).cell? ⟨w1.heap.size, 1, none⟩ = some (.slice A1 n1 c1) := by rw [cell_of_row _ _ _ _ _ _ HF36.out]; rfl
      have hc46 : w3.cell? ⟨w1.heap.size, 1, none⟩ = some (.slice A1 n1 c1) := by rw [cell_of_row _ _ _ _ _ _ HF29.out]; rfl
      have hc47 : (w3.alloc (.cells #[.string j2, .string f, .string h, .slice A3 n3 c3, .slice B3 n4 d3] 59 (0, 0))).cell? ⟨w1.heap.size, 2, none⟩ = some (.slice B1 n2 d1) := by rw [cell_of_row _ _ _ _ _ _ HF36.out]; rfl
      have hc48 : w3.cell? ⟨w1.heap.size, 2, none⟩ = some (.slice B1 n2 d1) := by rw [cell_of_row _ _ _ _ _ _ HF29.out]; rfl
      have hl49 : w1.heap.size < w3.heap.size := lt_of_block HF29.out
      have hl50 : ¬ w1.heap.size = w3.heap.size := by omega
      have hc51 : (w3.alloc (.cells #[.string j2, .string f, .string h, .slice A3 n3 c3, .slice B3 n4 d3] 59 (0, 0))).cell? ⟨w2.heap.size, 0, none⟩ = some (.string j1) := by rw [cell_of_row _ _ _ _ _ _ HF37.out]; rfl
      have hc52 : w3.cell? ⟨w2.heap.size, 0, none⟩ = some (.string j1) := by rw [cell_of_row _ _ _ _ _ _ HF30.out]; rfl
      have hc53 : (w3.alloc (.cells #[.string j2, .string f, .string h, .slice A3 n3 c3, .slice B3 n4 d3] 59 (0, 0))).cell? ⟨w2.heap.size, 1, none⟩ = some (.slice A2 n1 c2) := by rw [cell_of_row _ _ _ _ _ _ HF37.out]; rfl
      have hc54 : w3.cell? ⟨w2.heap.size, 1, none⟩ = some (.slice A2 n1 c2) := by rw [cell_of_row _ _ _ _ _ _ HF30.out]; rfl
      have hc55 : (w3.alloc (.cells #[.string j2, .string f, .string h, .slice A3 n3 c3, .slice B3 n4 d3] 59 (0, 0))).cell? ⟨w2.heap.size, 2, none⟩ = some (.slice B2 n2 d2) := by rw [cell_of_row _ _ _ _ _ _ HF37.out]; rfl
      have hc56 : w3.cell? ⟨w2.heap.size, 2, none⟩ = some (.slice B2 n2 d2) := by rw [cell_of_row _ _ _ _ _ _ HF30.out]; rfl
      have hl57 : w2.heap.size < w3.heap.size := lt_of_block HF30.out
      have hl58 : ¬ w2.heap.size = w3.heap.size := by omega
      have hc59 : (w3.alloc (.cells #[.string j2, .string f, .string h, .slice A3 n3 c3, .slice B3 n4 d3] 59 (0, 0))).cell? ⟨w3.heap.size, 0, none⟩ = some (.string j2) := by rw [cell_of_row _ _ _ _ _ _ HF38.out]; rfl
      have hc60 : (w3.alloc (.cells #[.string j2, .string f, .string h, .slice A3 n3 c3, .slice B3 n4 d3] 59 (0, 0))).cell? ⟨w3.heap.size, 1, none⟩ = some (.string f) := by rw [cell_of_row _ _ _ _ _ _ HF38.out]; rfl
      have hc61 : (w3.alloc (.cells #[.string j2, .string f, .string h, .slice A3 n3 c3, .slice B3 n4 d3] 59 (0, 0))).cell? ⟨w3.heap.size, 2, none⟩ = some (.string h) := by rw [cell_of_row _ _ _ _ _ _ HF38.out]; rfl
      have hc62 : (w3.alloc (.cells #[.string j2, .string f, .string h, .slice A3 n3 c3, .slice B3 n4 d3] 59 (0, 0))).cell? ⟨w3.heap.size, 3, none⟩ = some (.slice A3 n3 c3) := by rw [cell_of_row _ _ _ _ _ _ HF38.out]; rfl
      have hc63 : (w3.alloc (.cells #[.string j2, .string f, .string h, .slice A3 n3 c3, .slice B3 n4 d3] 59 (0, 0))).cell? ⟨w3.heap.size, 4, none⟩ = some (.slice B3 n4 d3) := by rw [cell_of_row _ _ _ _ _ _ HF38.out]; rfl
      go_wp2_with fail
      clear hc43 hc44 hc45 hc46 hc47 hc48 hl49 hl50 hc51 hc52 hc53 hc54 hc55 hc56 hl57 hl58 hc59 hc60 hc61 hc62 hc63
      refine (HE2.out (w3.alloc (.cells #[.string j2, .string f, .string h, .slice A3 n3 c3, .slice B3 n4 d3] 59 (0, 0)))).mono ?_
      rintro e w4 ⟨A4, c4, B4, d4, rfl, hlp, hb4⟩
      have HF64 := Lib.hid (blk_below HF36.out hb4)
      have HF65 := Lib.hid (blk_below HF37.out hb4)
      have HF66 := Lib.hid (blk_below HF38.out hb4)
      have HB67 := Lib.hid (HB39.out.trans (hb4.mono (by have := HB39.out.size; simp at this ⊢ <;> omega)))
      have HQ68 := Lib.hid (HQ40.out.below hb4)
      clear HQ40
      have HQ69 := Lib.hid (HQ41.out.below hb4)
      clear HQ41
      have HQ70 := Lib.hid (HQ42.out.below hb4)
      clear HQ42
      clear hb4 HB39 HF36 HF29 HF37 HF30 HF38
      have HP4 := Lib.hid hlp
      clear hlp
      have hk71 : w1.heap.size < w4.heap.size := lt_of_block HF64.out
      have hk72 : w2.heap.size < w4.heap.size := lt_of_block HF65.out
      have hk73 : w3.heap.size < w4.heap.size := lt_of_block HF66.out
      have HF74 := Lib.hid (blk_alloc HF64.out (.cells #[.string j2, .string f, .string h, .slice A4 n3 c4, .slice B4 n4 d4] 59 (0, 0)))
      have HF75 := Lib.hid (blk_alloc HF65.out (.cells #[.string j2, .string f, .string h, .slice A4 n3 c4, .slice B4 n4 d4] 59 (0, 0)))
      have HF76 := Lib.hid (blk_alloc HF66.out (.cells #[.string j2, .string f, .string h, .slice A4 n3 c4, .slice B4 n4 d4] 59 (0, 0)))
      have HF77 := Lib.hid (blk_new w4 (.cells #[.string j2, .string f, .string h, .slice A4 n3 c4, .slice B4 n4 d4] 59 (0, 0)))
      have HB78 := Lib.hid (HB67.out.alloc HB67.out.size (.cells #[.string j2, .string f, .string h, .slice A4 n3 c4, .slice B4 n4 d4] 59 (0, 0)))
      clear HB67
      have HQ79 := Lib.hid (HQ68.out.below ((Below.refl _ w4).alloc (Nat.le_refl _) (.cells #[.string j2, .string f, .string h, .slice A4 n3 c4, .slice B4 n4 d4] 59 (0, 0))))
      clear HQ68
      have HQ80 := Lib.hid (HQ69.out.below ((Below.refl _ w4).alloc (Nat.le_refl _) (.cells #[.string j2, .string f, .string h, .slice A4 n3 c4, .slice B4 n4 d4] 59 (0, 0))))
      clear HQ69
      have HQ81 := Lib.hid (HQ70.out.below ((Below.refl _ w4).alloc (Nat.le_refl _) (.cells #[.string j2, .string f, .string h, .slice A4 n3 c4, .slice B4 n4 d4] 59 (0, 0))))
      clear HQ70
      have HQ82 := Lib.hid (HP4.out.below ((Below.refl _ w4).alloc (Nat.le_refl _) (.cells #[.string j2, .string f, .string h, .slice A4 n3 c4, .slice B4 n4 d4] 59 (0, 0))))
      clear HP4
      have hc83 : (w4.alloc (.cells #[.string j2, .string f, .string h, .slice A4 n3 c4, .slice B4 n4 d4] 59 (0, 0))).cell? ⟨w1.heap.size, 0, none⟩ = some (.string j1) := by rw [cell_of_row _ _ _ _ _ _ HF74.out]; rfl
      have hc84 : w4.cell? ⟨w1.heap.size, 0, none⟩ = some (.string j1) := by rw [cell_of_row _ _ _ _ _ _ HF64.out]; rfl
      have hc85 : (w4.alloc (.cells #[.string j2, .string f, .string h, .slice A4 n3 c4, .slice B4 n4 d4] 59 (0, 0))).cell? ⟨w1.heap.size, 1, none⟩ = some (.slice A1 n1 c1) := by rw [cell_of_row _ _ _ _ _ _ HF74.out]; rfl
      have hc86 : w4.cell? ⟨w1.heap.size, 1, none⟩ = some (.slice A1 n1 c1) := by rw [cell_of_row _ _ _ _ _ _ HF64.out]; rfl
      have hc87 : (w4.alloc (.cells #[.string j2, .string f, .string h, .slice A4 n3 c4, .slice B4 n4 d4] 59 (0, 0))).cell? ⟨w1.heap.size, 2, none⟩ = some (.slice B1 n2 d1) := by rw [cell_of_row _ _ _ _ _ _ HF74.out]; rfl
      have hc88 : w4.cell? ⟨w1.heap.size, 2, none⟩ = some (.slice B1 n2 d1) := by rw [cell_of_row _ _ _ _ _ _ HF64.out]; rfl
      have hl89 : w1.heap.size < w4.heap.size := lt_of_block HF64.out
      have hl90 : ¬ w1.heap.size = w4.heap.size := by omega
      have hc91 : (w4.alloc (.cells #[.string j2, .string f, .string h, .slice A4 n3 c4, .slice B4 n4 d4] 59 (0, 0))).cell? ⟨w2.heap.size, 0, none⟩ = some (.string j1) := by rw [cell_of_row _ _ _ _ _ _ HF75.out]; rfl
      have hc92 : w4.cell? ⟨w2.heap.size, 0, none⟩ = some (.string j1) := by rw [cell_of_row _ _ _ _ _ _ HF65.out]; rfl
      have hc93 : (w4.alloc (.cells #[.string j2, .string f, .string h, .slice A4 n3 c4, .slice B4 n4 d4] 59 (0, 0))).cell? ⟨w2.heap.size, 1, none⟩ = some (.slice A2 n1 c2) := by rw [cell_of_row _ _ _ _ _ _ HF75.out]; rfl
      have hc94 : w4.cell? ⟨w2.heap.size, 1, none⟩ = some (.slice A2 n1 c2) := by rw [cell_of_row _ _ _ _ _ _ HF65.out]; rfl
      have hc95 : (w4.alloc (.cells #[.string j2, .string f, .string h, .slice A4 n3 c4, .slice B4 n4 d4] 59 (0, 0))).cell? ⟨w2.heap.size, 2, none⟩ = some (.slice B2 n2 d2) := by rw [cell_of_row _ _ _ _ _ _ HF75.out]; rfl
      have hc96 : w4.cell? ⟨w2.heap.size, 2, none⟩ = some (.slice B2 n2 d2) := by rw [cell_of_row _ _ _ _ _ _ HF65.out]; rfl
      have hl97 : w2.heap.size < w4.heap.size := lt_of_block HF65.out
      have hl98 : ¬ w2.heap.size = w4.heap.size := by omega
      have hc99 : (w4.alloc (.cells #[.string j2, .string f, .string h, .slice A4 n3 c4, .slice B4 n4 d4] 59 (0, 0))).cell? ⟨w3.heap.size, 0, none⟩ = some (.string j2) := by rw [cell_of_row _ _ _ _ _ _ HF76.out]; rfl
      have hc100 : w4.cell? ⟨w3.heap.size, 0, none⟩ = some (.string j2) := by rw [cell_of_row _ _ _ _ _ _ HF66.out]; rfl
      have hc101 : (w4.alloc (.cells #[.string j2, .string f, .string h, .slice A4 n3 c4, .slice B4 n4 d4] 59 (0, 0))).cell? ⟨w3.heap.size, 1, none⟩ = some (.string f) := by rw [cell_of_row _ _ _ _ _ _ HF76.out]; rfl
      have hc102 : w4.cell? ⟨w3.heap.size, 1, none⟩ = some (.string f) := by rw [cell_of_row _ _ _ _ _ _ HF66.out]; rfl
      have hc103 : (w4.alloc (.cells #[.string j2, .string f, .string h, .slice A4 n3 c4, .slice B4 n4 d4] 59 (0, 0))).cell? ⟨w3.heap.size, 2, none⟩ = some (.string h) := by rw [cell_of_row _ _ _ _ _ _ HF76.out]; rfl
      have hc104 : w4.cell? ⟨w3.heap.size, 2, none⟩ = some (.string h) := by rw [cell_of_row _ _ _ _ _ _ HF66.out]; rfl
      have hc105 : (w4.alloc (.cells #[.string j2, .string f, .string h, .slice A4 n3 c4, .slice B4 n4 d4] 59 (0, 0))).cell? ⟨w3.heap.size, 3, none⟩ = some (.slice A3 n3 c3) := by rw [cell_of_row _ _ _ _ _ _ HF76.out]; rfl
      have hc106 : w4.cell? ⟨w3.heap.size, 3, none⟩ = some (.slice A3 n3 c3) := by rw [cell_of_row _ _ _ _ _ _ HF66.out]; rfl
      have hc107 : (w4.alloc (.cells #[.string j2, .string f, .string h, .slice A4 n3 c4, .slice B4 n4 d4] 59 (0, 0))).cell? ⟨w3.heap.size, 4, none⟩ = some (.slice B3 n4 d3) := by rw [cell_of_row _ _ _ _ _ _ HF76.out]; rfl
      have hc108 : w4.cell? ⟨w3.heap.size, 4, none⟩ = some (.slice B3 n4 d3) := by rw [cell_of_row _ _ _ _ _ _ HF66.out]; rfl
      have hl109 : w3.heap.size < w4.heap.size := lt_of_block HF66.out
      have hl110 : ¬ w3.heap.size = w4.heap.size := by omega
      have hc111 : (w4.alloc (.cells #[.string j2, .string f, .string h, .slice A4 n3 c4, .slice B4 n4 d4] 59 (0, 0))).cell? ⟨w4.heap.size, 0, none⟩ = some (.string j2) := by rw [cell_of_row _ _ _ _ _ _ HF77.out]; rfl
      have hc112 : (w4.alloc (.cells #[.string j2, .string f, .string h, .slice A4 n3 c4, .slice B4 n4 d4] 59 (0, 0))).cell? ⟨w4.heap.size, 1, none⟩ = some (.string f) := by rw [cell_of_row _ _ _ _ _ _ HF77.out]; rfl
      have hc113 : (w4.alloc (.cells #[.string j2, .string f, .string h, .slice A4 n3 c4, .slice B4 n4 d4] 59 (0, 0))).cell? ⟨w4.heap.size, 2, none⟩ = some (.string h) := by rw [cell_of_row _ _ _ _ _ _ HF77.out]; rfl
      have hc114 : (w4.alloc (.cells #[.string j2, .string f, .string h, .slice A4 n3 c4, .slice B4 n4 d4] 59 (0, 0))).cell? ⟨w4.heap.size, 3, none⟩ = some (.slice A4 n3 c4) := by rw [cell_of_row _ _ _ _ _ _ HF77.out]; rfl
      have hc115 : (w4.alloc (.cells #[.string j2, .string f, .string h, .slice A4 n3 c4, .slice B4 n4 d4] 59 (0, 0))).cell? ⟨w4.heap.size, 4, none⟩ = some (.slice B4 n4 d4) := by rw [cell_of_row _ _ _ _ _ _ HF77.out]; rfl
      go_wp2_with fail
      clear hc83 hc84 hc85 hc86 hc87 hc88 hl89 hl90 hc91 hc92 hc93 hc94 hc95 hc96 hl97 hl98 hc99 hc100 hc101 hc102 hc103 hc104 hc105 hc106 hc107 hc108 hl109 hl110 hc111 hc112 hc113 hc114 hc115
      refine (snode_yes j1 A1 A2 B1 B2 n1 c1 c2 n2 d1 d2 lA psA (w4.alloc (.cells #[.string j2, .string f, .string h, .slice A4 n3 c4, .slice B4 n4 d4] 59 (0, 0))) HQ79.out HQ80.out (by omega) (by omega)).mono ?_
      rintro e w5 ⟨rfl, hb5⟩
      have HF116 := Lib.hid (blk_below HF74.out hb5)
      have HF117 := Lib.hid (blk_below HF75.out hb5)
      have HF118 := Lib.hid (blk_below HF76.out hb5)
      have HF119 := Lib.hid (blk_below HF77.out hb5)
      have HB120 := Lib.hid (HB78.out.trans (hb5.mono HB78.out.size))
      have HQ121 := Lib.hid (HQ79.out.below hb5)
      clear HQ79
      have HQ122 := Lib.hid (HQ80.out.below hb5)
      clear HQ80
      have HQ123 := Lib.hid (HQ81.out.below hb5)
      clear HQ81
      have HQ124 := Lib.hid (HQ82.out.below hb5)
      clear HQ82
      clear hb5 HB78 HF74 HF64 HF75 HF65 HF76 HF66 HF77
      have hc125 : w5.cell? ⟨w3.heap.size, 0, none⟩ = some (.string j2) := by rw [cell_of_row _ _ _ _ _ _ HF118.out]; rfl
      have hc126 : w5.cell? ⟨w3.heap.size, 1, none⟩ = some (.string f) := by rw [cell_of_row _ _ _ _ _ _ HF118.out]; rfl
      have hc127 : w5.cell? ⟨w3.heap.size, 2, none⟩ = some (.string h) := by rw [cell_of_row _ _ _ _ _ _ HF118.out]; rfl
      have hc128 : w5.cell? ⟨w3.heap.size, 3, none⟩ = some (.slice A3 n3 c3) := by rw [cell_of_row _ _ _ _ _ _ HF118.out]; rfl
      have hc129 : w5.cell? ⟨w3.heap.size, 4, none⟩ = some (.slice B3 n4 d3) := by rw [cell_of_row _ _ _ _ _ _ HF118.out]; rfl
      have hc130 : w5.cell? ⟨w4.heap.size, 0, none⟩ = some (.string j2) := by rw [cell_of_row _ _ _ _ _ _ HF119.out]; rfl
      have hc131 : w5.cell? ⟨w4.heap.size, 1, none⟩ = some (.string f) := by rw [cell_of_row _ _ _ _ _ _ HF119.out]; rfl
      have hc132 : w5.cell? ⟨w4.heap.size, 2, none⟩ = some (.string h) := by rw [cell_of_row _ _ _ _ _ _ HF119.out]; rfl
      have hc133 : w5.cell? ⟨w4.heap.size, 3, none⟩ = some (.slice A4 n3 c4) := by rw [cell_of_row _ _ _ _ _ _ HF119.out]; rfl
      have hc134 : w5.cell? ⟨w4.heap.size, 4, none⟩ = some (.slice B4 n4 d4) := by rw [cell_of_row _ _ _ _ _ _ HF119.out]; rfl
      go_wp2_with fail
      clear hc125 hc126 hc127 hc128 hc129 hc130 hc131 hc132 hc133 hc134
      refine (sedge_yes j2 f h A3 A4 B3 B4 n3 c3 c4 n4 d3 d4 lB psB w5 HQ123.out HQ124.out (by omega) (by omega)).mono ?_
      rintro e w6 ⟨rfl, hb6⟩
      have HF135 := Lib.hid (blk_below HF116.out hb6)
      have HF136 := Lib.hid (blk_below HF117.out hb6)
      have HF137 := Lib.hid (blk_below HF118.out hb6)
      have HF138 := Lib.hid (blk_below HF119.out hb6)
      have HB139 := Lib.hid (HB120.out.trans (hb6.mono HB120.out.size))
      have HQ140 := Lib.hid (HQ121.out.below hb6)
      clear HQ121
      have HQ141 := Lib.hid (HQ122.out.below hb6)
      clear HQ122
      have HQ142 := Lib.hid (HQ123.out.below hb6)
      clear HQ123
      have HQ143 := Lib.hid (HQ124.out.below hb6)
      clear HQ124
      clear hb6 HB120 HF116 HF117 HF118 HF119
      go_wp2_with fail
      refine (awake25 w6).mono ?_
      rintro e w7 ⟨rfl, hb7⟩
      have HF144 := Lib.hid (blk_below HF135.out hb7)
      have HF145 := Lib.hid (blk_below HF136.out hb7)
      have HF146 := Lib.hid (blk_below HF137.out hb7)
      have HF147 := Lib.hid (blk_below HF138.out hb7)
      have HB148 := Lib.hid (HB139.out.trans (hb7.mono HB139.out.size))
      have HQ149 := Lib.hid (HQ140.out.below hb7)
      clear HQ140
      have HQ150 := Lib.hid (HQ141.out.below hb7)
      clear HQ141
      have HQ151 := Lib.hid (HQ142.out.below hb7)
      clear HQ142
      have HQ152 := Lib.hid (HQ143.out.below hb7)
      clear HQ143
      clear hb7 HB139 HF135 HF136 HF137 HF138
      go_wp2_with fail
      go_ret
      exact ⟨rfl, HB148.out⟩
    · have HB1 := Lib.hid (Below.refl w.heap.size w)
      go_enter Try.func7, Try.ntmps7
      go_wp2_with fail
      refine (HN1.out w).mono ?_
      rintro e w1 ⟨A1, c1, B1, d1, rfl, hlp, hb1⟩
      have HB2 := Lib.hid (HB1.out.trans (hb1.mono (by have := HB1.out.size; simp at this ⊢ <;> omega)))
      clear hb1 HB1 
      have HP1 := Lib.hid hlp
      clear hlp
      have HF3 := Lib.hid (blk_new w1 (.cells #[.string j1, .slice A1 n1 c1, .slice B1 n2 d1] 48 (0, 0)))
      have HB4 := Lib.hid (HB2.out.alloc HB2.out.size (.cells #[.string j1, .slice A1 n1 c1, .slice B1 n2 d1] 48 (0, 0)))
      clear HB2
      have HQ5 := Lib.hid (HP1.out.below ((Below.refl _ w1).alloc (Nat.le_refl _) (.cells #[.string j1, .slice A1 n1 c1, .slice B1 n2 d1] 48 (0, 0))))
      clear HP1
      have hc6 : (w1.alloc (.cells #[.string j1, .slice A1 n1 c1, .slice B1 n2 d1] 48 (0, 0))).cell? ⟨w1.heap.size, 0, none⟩ = some (.string j1) := by rw [cell_of_row _ _ _ _ _ _ HF3.out]; rfl
      have hc7 : (w1.alloc (.cells #[.string j1, .slice A1 n1 c1, .slice B1 n2 d1] 48 (0, 0))).cell? ⟨w1.heap.size, 1, none⟩ = some (.slice A1 n1 c1) := by rw [cell_of_row _ _ _ _ _ _ HF3.out]; rfl
      have hc8 : (w1.alloc (.cells #[.string j1, .slice A1 n1 c1, .slice B1 n2 d1] 48 (0, 0))).cell? ⟨w1.heap.size, 2, none⟩ = some (.slice B1 n2 d1) := by rw [cell_of_row _ _ _ _ _ _ HF3.out]; rfl
      go_wp2_with fail
      clear hc6 hc7 hc8
      refine (HN2.out (w1.alloc (.cells #[.string j1, .slice A1 n1 c1, .slice B1 n2 d1] 48 (0, 0)))).mono ?_
      rintro e w2 ⟨A2, c2, B2, d2, rfl, hlp, hb2⟩
      have HF9 := Lib.hid (blk_below HF3.out hb2)
      have HB10 := Lib.hid (HB4.out.trans (hb2.mono (by have := HB4.out.size; simp at this ⊢ <;> omega)))
      have HQ11 := Lib.hid (HQ5.out.below hb2)
      clear HQ5
      clear hb2 HB4 HF3
      have HP2 := Lib.hid hlp
      clear hlp
      have hk12 : w1.heap.size < w2.heap.size := lt_of_block HF9.out
      have HF13 := Lib.hid (blk_alloc HF9.out (.cells #[.string j1, .slice A2 n1 c2, .slice B2 n2 d2] 48 (0, 0)))
      have HF14 := Lib.hid (blk_new w2 (.cells #[.string j1, .slice A2 n1 c2, .slice B2 n2 d2] 48 (0, 0)))
      have HB15 := Lib.hid (HB10.out.alloc HB10.out.size (.cells #[.string j1, .slice A2 n1 c2, .slice B2 n2 d2] 48 (0, 0)))
      clear HB10
      have HQ16 := Lib.hid (HQ11.out.below ((Below.refl _ w2).alloc (Nat.le_refl _) (.cells #[.string j1, .slice A2 n1 c2, .slice B2 n2 d2] 48 (0, 0))))
      clear HQ11
      have HQ17 := Lib.hid (HP2.out.below ((Below.refl _ w2).alloc (Nat.le_refl _) (.cells #[.string j1, .slice A2 n1 c2, .slice B2 n2 d2] 48 (0, 0))))
      clear HP2
      have hc18 : (w2.alloc (.cells #[.string j1, .slice A2 n1 c2, .slice B2 n2 d2] 48 (0, 0))).cell? ⟨w1.heap.size, 0, none⟩ = some (.string j1) := by rw [cell_of_row _ _ _ _ _ _ HF13.out]; rfl
      have hc19 : w2.cell? ⟨w1.heap.size, 0, none⟩ = some (.string j1) := by rw [cell_of_row _ _ _ _ _ _ HF9.out]; rfl
      have hc20 : (w2.alloc (.cells #[.string j1, .slice A2 n1 c2, .slice B2 n2 d2] 48 (0, 0))).cell? ⟨w1.heap.size, 1, none⟩ = some (.slice A1 n1 c1) := by rw [cell_of_row _ _ _ _ _ _ HF13.out]; rfl
      have hc21 : w2.cell? ⟨w1.heap.size, 1, none⟩ = some (.slice A1 n1 c1) := by rw [cell_of_row _ _ _ _ _ _ HF9.out]; rfl
      have hc22 : (w2.alloc (.cells #[.string j1, .slice A2 n1 c2, .slice B2 n2 d2] 48 (0, 0))).cell? ⟨w1.heap.size, 2, none⟩ = some (.slice B1 n2 d1) := by rw [cell_of_row _ _ _ _ _ _ HF13.out]; rfl
      have hc23 : w2.cell? ⟨w1.heap.size, 2, none⟩ = some (.slice B1 n2 d1) := by rw [cell_of_row _ _ _ _ _ _ HF9.out]; rfl
      have hl24 : w1.heap.size < w2.heap.size := lt_of_block HF9.out
      have hl25 : ¬ w1.heap.size = w2.heap.size := by omega
      have hc26 : (w2.alloc (.cells #[.string j1, .slice A2 n1 c2, .slice B2 n2 d2] 48 (0, 0))).cell? ⟨w2.heap.size, 0, none⟩ = some (.string j1) := by rw [cell_of_row _ _ _ _ _ _ HF14.out]; rfl
      have hc27 : (w2.alloc (.cells #[.string j1, .slice A2 n1 c2, .slice B2 n2 d2] 48 (0, 0))).cell? ⟨w2.heap.size, 1, none⟩ = some (.slice A2 n1 c2) := by rw [cell_of_row _ _ _ _ _ _ HF14.out]; rfl
      have hc28 : (w2.alloc (.cells #[.string j1, .slice A2 n1 c2, .slice B2 n2 d2] 48 (0, 0))).cell? ⟨w2.heap.size, 2, none⟩ = some (.slice B2 n2 d2) := by rw [cell_of_row _ _ _ _ _ _ HF14.out]; rfl
      go_wp2_with fail
      clear hc18 hc19 hc20 hc21 hc22 hc23 hl24 hl25 hc26 hc27 hc28
      refine (HE1.out (w2.alloc (.cells #[.string j1, .slice A2 n1 c2, .slice B2 n2 d2] 48 (0, 0)))).mono ?_
      rintro e w3 ⟨A3, c3, B3, d3, rfl, hlp, hb3⟩
      have HF29 := Lib.hid (blk_below HF13.out hb3)
      have HF30 := Lib.hid (blk_below HF14.out hb3)
      have HB31 := Lib.hid (HB15.out.trans (hb3.mono (by have := HB15.out.size; simp at this ⊢ <;> omega)))
      have HQ32 := Lib.hid (HQ16.out.below hb3)
      clear HQ16
      have HQ33 := Lib.hid (HQ17.out.below hb3)
      clear HQ17
      clear hb3 HB15 HF13 HF9 HF14
      have HP3 := Lib.hid hlp
      clear hlp
      have hk34 : w1.heap.size < w3.heap.size := lt_of_block HF29.out
      have hk35 : w2.heap.size < w3.heap.size := lt_of_block HF30.out
      have HF36 := Lib.hid (blk_alloc HF29.out (.cells #[.string j2, .string f, .string h, .slice A3 n3 c3, .slice B3 n4 d3] 59 (0, 0)))
      have HF37 := Lib.hid (blk_alloc HF30.out (.cells #[.string j2, .string f, .string h, .slice A3 n3 c3, .slice B3 n4 d3] 59 (0, 0)))
      have HF38 := Lib.hid (blk_new w3 (.cells #[.string j2, .string f, .string h, .slice A3 n3 c3, .slice B3 n4 d3] 59 (0, 0)))
      have HB39 := Lib.hid (HB31.out.alloc HB31.out.size (.cells #[.string j2, .string f, .string h, .slice A3 n3 c3, .slice B3 n4 d3] 59 (0, 0)))
      clear HB31
      have HQ40 := Lib.hid (HQ32.out.below ((Below.refl _ w3).alloc (Nat.le_refl _) (.cells #[.string j2, .string f, .string h, .slice A3 n3 c3, .slice B3 n4 d3] 59 (0, 0))))
      clear HQ32
      have HQ41 := Lib.hid (HQ33.out.below ((Below.refl _ w3).alloc (Nat.le_refl _) (.cells #[.string j2, .string f, .string h, .slice A3 n3 c3, .slice B3 n4 d3] 59 (0, 0))))
      clear HQ33
      have HQ42 := Lib.hid (HP3.out.below ((Below.refl _ w3).alloc (Nat.le_refl _) (.cells #[.string j2, .string f, .string h, .slice A3 n3 c3, .slice B3 n4 d3] 59 (0, 0))))
      clear HP3
      have hc43 : (w3.alloc (.cells #[.string j2, .string f, .string h, .slice A3 n3 c3, .slice B3 n4 d3] 59 (0, 0))).cell? ⟨w1.heap.size, 0, none⟩ = some (.string j1) := by rw [cell_of_row _ _ _ _ _ _ HF36.out]; rfl
      have hc44 : w3.cell? ⟨w1.heap.size, 0, none⟩ = some (.string j1) := by rw [cell_of_row _ _ _ _ _ _ HF29.out]; rfl
      have hc45 : (w3.alloc (.cells #[.string j2, .string f, .string h, .slice A3 n3 c3, .slice B3 n4 d3] 59 (0, 0))).cell? ⟨w1.heap.size, 1, none⟩ = some (.slice A1 n1 c1) := by rw [cell_of_row _ _ _ _ _ _ HF36.out]; rfl
      have hc46 : w3.cell? ⟨w1.heap.size, 1, none⟩ = some (.slice A1 n1 c1) := by rw [cell_of_row _ _ _ _ _ _ HF29.out]; rfl
      have hc47 : (w3.alloc (.cells #[.string j2, .string f, .string h, .slice A3 n3 c3, .slice B3 n4 d3] 59 (0, 0))).cell? ⟨w1.heap.size, 2, none⟩ = some (.slice B1 n2 d1) := by rw [cell_of_row _ _ _ _ _ _ HF36.out]; rfl
      have hc48 : w3.cell? ⟨w1.heap.size, 2, none⟩ = some (.slice B1 n2 d1) := by rw [cell_of_row _ _ _ _ _ _ HF29.out]; rfl
      have hl49 : w1.heap.size < w3.heap.size := lt_of_block HF29.out
      have hl50 : ¬ w1.heap.size = w3.heap.size := by omega
      have hc51 : (w3.alloc (.cells #[.string j2, .string f, .string h, .slice A3 n3 c3, .slice B3 n4 d3] 59 (0, 0))).cell? ⟨w2.heap.size, 0, none⟩ = some (.string j1) := by rw [cell_of_row _ _ _ _ _ _ HF37.out]; rfl
      have hc52 : w3.cell? ⟨w2.heap.size, 0, none⟩ = some (.string j1) := by rw [cell_of_row _ _ _ _ _ _ HF30.out]; rfl
      have hc53 : (w3.alloc (.cells #[.string j2, .string f, .string h, .slice A3 n3 c3, .slice B3 n4 d3] 59 (0, 0))).cell? ⟨w2.heap.size, 1, none⟩ = some (.slice A2 n1 c2) := by rw [cell_of_row _ _ _ _ _ _ HF37.out]; rfl
      have hc54 : w3.cell? ⟨w2.heap.size, 1, none⟩ = some (.slice A2 n1 c2) := by rw [cell_of_row _ _ _ _ _ _ HF30.out]; rfl
      have hc55 : (w3.alloc (.cells #[.string j2, .string f, .string h, .slice A3 n3 c3, .slice B3 n4 d3] 59 (0, 0))).cell? ⟨w2.heap.size, 2, none⟩ = some (.slice B2 n2 d2) := by rw [cell_of_row _ _ _ _ _ _ HF37.out]; rfl
      have hc56 : w3.cell? ⟨w2.heap.size, 2, none⟩ = some (.slice B2 n2 d2) := by rw [cell_of_row _ _ _ _ _ _ HF30.out]; rfl
      have hl57 : w2.heap.size < w3.heap.size := lt_of_block HF30.out
      have hl58 : ¬ w2.heap.size = w3.heap.size := by omega
      have hc59 : (w3.alloc (.cells #[.string j2, .string f, .string h, .slice A3 n3 c3, .slice B3 n4 d3] 59 (0, 0))).cell? ⟨w3.heap.size, 0, none⟩ = some (.string j2) := by rw [cell_of_row _ _ _ _ _ _ HF38.out]; rfl
      have hc60 : (w3.alloc (.cells #[.string j2, .string f, .string h, .slice A3 n3 c3, .slice B3 n4 d3] 59 (0, 0))).cell? ⟨w3.heap.size, 1, none⟩ = some (.string f) := by rw [cell_of_row _ _ _ _ _ _ HF38.out]; rfl
      have hc61 : (w3.alloc (.cells #[.string j2, .string f, .string h, .slice A3 n3 c3, .slice B3 n4 d3] 59 (0, 0))).cell? ⟨w3.heap.size, 2, none⟩ = some (.string h) := by rw [cell_of_row _ _ _ _ _ _ HF38.out]; rfl
      have hc62 : (w3.alloc (.cells #[.string j2, .string f, .string h, .slice A3 n3 c3, .slice B3 n4 d3] 59 (0, 0))).cell? ⟨w3.heap.size, 3, none⟩ = some (.slice A3 n3 c3) := by rw [cell_of_row _ _ _ _ _ _ HF38.out]; rfl
      have hc63 : (w3.alloc (.cells #[.string j2, .string f, .string h, .slice A3 n3 c3, .slice B3 n4 d3] 59 (0, 0))).cell? ⟨w3.heap.size, 4, none⟩ = some (.slice B3 n4 d3) := by rw [cell_of_row _ _ _ _ _ _ HF38.out]; rfl
      go_wp2_with fail
      clear hc43 hc44 hc45 hc46 hc47 hc48 hl49 hl50 hc51 hc52 hc53 hc54 hc55 hc56 hl57 hl58 hc59 hc60 hc61 hc62 hc63
      refine (HE2.out (w3.alloc (.cells #[.string j2, .string f, .string h, .slice A3 n3 c3, .slice B3 n4 d3] 59 (0, 0)))).mono ?_
      rintro e w4 ⟨A4, c4, B4, d4, rfl, hlp, hb4⟩
      have HF64 := Lib.hid (blk_below HF36.out hb4)
      have HF65 := Lib.hid (blk_below HF37.out hb4)
      have HF66 := Lib.hid (blk_below HF38.out hb4)
      have HB67 := Lib.hid (HB39.out.trans (hb4.mono (by have := HB39.out.size; simp at this ⊢ <;> omega)))
      have HQ68 := Lib.hid (HQ40.out.below hb4)
      clear HQ40
      have HQ69 := Lib.hid (HQ41.out.below hb4)
      clear HQ41
      have HQ70 := Lib.hid (HQ42.out.below hb4)
      clear HQ42
      clear hb4 HB39 HF36 HF29 HF37 HF30 HF38
      have HP4 := Lib.hid hlp
      clear hlp
      have hk71 : w1.heap.size < w4.heap.size := lt_of_block HF64.out
      have hk72 : w2.heap.size < w4.heap.size := lt_of_block HF65.out
      have hk73 : w3.heap.size < w4.heap.size := lt_of_block HF66.out
      have HF74 := Lib.hid (blk_alloc HF64.out (.cells #[.string j2, .string f, .string h, .slice A4 n3 c4, .slice B4 n4 d4] 59 (0, 0)))
      have HF75 := Lib.hid (blk_alloc HF65.out (.cells #[.string j2, .string f, .string h, .slice A4 n3 c4, .slice B4 n4 d4] 59 (0, 0)))
      have HF76 := Lib.hid (blk_alloc HF66.out (.cells #[.string j2, .string f, .string h, .slice A4 n3 c4, .slice B4 n4 d4] 59 (0, 0)))
      have HF77 := Lib.hid (blk_new w4 (.cells #[.string j2, .string f, .string h, .slice A4 n3 c4, .slice B4 n4 d4] 59 (0, 0)))
      have HB78 := Lib.hid (HB67.out.alloc HB67.out.size (.cells #[.string j2, .string f, .string h, .slice A4 n3 c4, .slice B4 n4 d4] 59 (0, 0)))
      clear HB67
      have HQ79 := Lib.hid (HQ68.out.below ((Below.refl _ w4).alloc (Nat.le_refl _) (.cells #[.string j2, .string f, .string h, .slice A4 n3 c4, .slice B4 n4 d4] 59 (0, 0))))
      clear HQ68
      have HQ80 := Lib.hid (HQ69.out.below ((Below.refl _ w4).alloc (Nat.le_refl _) (.cells #[.string j2, .string f, .string h, .slice A4 n3 c4, .slice B4 n4 d4] 59 (0, 0))))
      clear HQ69
      have HQ81 := Lib.hid (HQ70.out.below ((Below.refl _ w4).alloc (Nat.le_refl _) (.cells #[.string j2, .string f, .string h, .slice A4 n3 c4, .slice B4 n4 d4] 59 (0, 0))))
      clear HQ70
      have HQ82 := Lib.hid (HP4.out.below ((Below.refl _ w4).alloc (Nat.le_refl _) (.cells #[.string j2, .string f, .string h, .slice A4 n3 c4, .slice B4 n4 d4] 59 (0, 0))))
      clear HP4
      have hc83 : (w4.alloc (.cells #[.string j2, .string f, .string h, .slice A4 n3 c4, .slice B4 n4 d4] 59 (0, 0))).cell? ⟨w1.heap.size, 0, none⟩ = some (.string j1) := by rw [cell_of_row _ _ _ _ _ _ HF74.out]; rfl
      have hc84 : w4.cell? ⟨w1.heap.size, 0, none⟩ = some (.string j1) := by rw [cell_of_row _ _ _ _ _ _ HF64.out]; rfl
      have hc85 : (w4.alloc (.cells #[.string j2, .string f, .string h, .slice A4 n3 c4, .slice B4 n4 d4] 59 (0, 0))).cell? ⟨w1.heap.size, 1, none⟩ = some (.slice A1 n1 c1) := by rw [cell_of_row _ _ _ _ _ _ HF74.out]; rfl
      have hc86 : w4.cell? ⟨w1.heap.size, 1, none⟩ = some (.slice A1 n1 c1) := by rw [cell_of_row _ _ _ _ _ _ HF64.out]; rfl
      have hc87 : (w4.alloc (.cells #[.string j2, .string f, .string h, .slice A4 n3 c4, .slice B4 n4 d4] 59 (0, 0))).cell? ⟨w1.heap.size, 2, none⟩ = some (.slice B1 n2 d1) := by rw [cell_of_row _ _ _ _ _ _ HF74.out]; rfl
      have hc88 : w4.cell? ⟨w1.heap.size, 2, none⟩ = some (.slice B1 n2 d1) := by rw [cell_of_row _ _ _ _ _ _ HF64.out]; rfl
      have hl89 : w1.heap.size < w4.heap.size := lt_of_block HF64.out
      have hl90 : ¬ w1.heap.size = w4.heap.size := by omega
      have hc91 : (w4.alloc (.cells #[.string j2, .string f, .string h, .slice A4 n3 c4, .slice B4 n4 d4] 59 (0, 0))).cell? ⟨w2.heap.size, 0, none⟩ = some (.string j1) := by rw [cell_of_row _ _ _ _ _ _ HF75.out]; rfl
      have hc92 : w4.cell? ⟨w2.heap.size, 0, none⟩ = some (.string j1) := by rw [cell_of_row _ _ _ _ _ _ HF65.out]; rfl
      have hc93 : (w4.alloc (.cells #[.string j2, .string f, .string h, .slice A4 n3 c4, .slice B4 n4 d4] 59 (0, 0))).cell? ⟨w2.heap.size, 1, none⟩ = some (.slice A2 n1 c2) := by rw [cell_of_row _ _ _ _ _ _ HF75.out]; rfl
      have hc94 : w4.cell? ⟨w2.heap.size, 1, none⟩ = some (.slice A2 n1 c2) := by rw [cell_of_row _ _ _ _ _ _ HF65.out]; rfl
      have hc95 : (w4.alloc (.cells #[.string j2, .string f, .string h, .slice A4 n3 c4, .slice B4 n4 d4] 59 (0, 0))).cell? ⟨w2.heap.size, 2, none⟩ = some (.slice B2 n2 d2) := by rw [cell_of_row _ _ _ _ _ _ HF75.out]; rfl
      have hc96 : w4.cell? ⟨w2.heap.size, 2, none⟩ = some (.slice B2 n2 d2) := by rw [cell_of_row _ _ _ _ _ _ HF65.out]; rfl
      have hl97 : w2.heap.size < w4.heap.size := lt_of_block HF65.out
      have hl98 : ¬ w2.heap.size = w4.heap.size := by omega
      have hc99 : (w4.alloc (.cells #[.string j2, .string f, .string h, .slice A4 n3 c4, .slice B4 n4 d4] 59 (0, 0))).cell? ⟨w3.heap.size, 0, none⟩ = some (.string j2) := by rw [cell_of_row _ _ _ _ _ _ HF76.out]; rfl
      have hc100 : w4.cell? ⟨w3.heap.size, 0, none⟩ = some (.string j2) := by rw [cell_of_row _ _ _ _ _ _ HF66.out]; rfl
      have hc101 : (w4.alloc (.cells #[.string j2, .string f, .string h, .slice A4 n3 c4, .slice B4 n4 d4] 59 (0, 0))).cell? ⟨w3.heap.size, 1, none⟩ = some (.string f) := by rw [cell_of_row _ _ _ _ _ _ HF76.out]; rfl
      have hc102 : w4.cell? ⟨w3.heap.size, 1, none⟩ = some (.string f) := by rw [cell_of_row _ _ _ _ _ _ HF66.out]; rfl
      have hc103 : (w4.alloc (.cells #[.string j2, .string f, .string h, .slice A4 n3 c4, .slice B4 n4 d4] 59 (0, 0))).cell? ⟨w3.heap.size, 2, none⟩ = some (.string h) := by rw [cell_of_row _ _ _ _ _ _ HF76.out]; rfl
      have hc104 : w4.cell? ⟨w3.heap.size, 2, none⟩ = some (.string h) := by rw [cell_of_row _ _ _ _ _ _ HF66.out]; rfl
      have hc105 : (w4.alloc (.cells #[.string j2, .string f, .string h, .slice A4 n3 c4, .slice B4 n4 d4] 59 (0, 0))).cell? ⟨w3.heap.size, 3, none⟩ = some (.slice A3 n3 c3) := by rw [cell_of_row _ _ _ _ _ _ HF76.out]; rfl
      have hc106 : w4.cell? ⟨w3.heap.size, 3, none⟩ = some (.slice A3 n3 c3) := by rw [cell_of_row _ _ _ _ _ _ HF66.out]; rfl
      have hc107 : (w4.alloc (.cells #[.string j2, .string f, .string h, .slice A4 n3 c4, .slice B4 n4 d4] 59 (0, 0))).cell? ⟨w3.heap.size, 4, none⟩ = some (.slice B3 n4 d3) := by rw [cell_of_row _ _ _ _ _ _ HF76.out]; rfl
      have hc108 : w4.cell? ⟨w3.heap.size, 4, none⟩ = some (.slice B3 n4 d3) := by rw [cell_of_row _ _ _ _ _ _ HF66.out]; rfl
      have hl109 : w3.heap.size < w4.heap.size := lt_of_block HF66.out
      have hl110 : ¬ w3.heap.size = w4.heap.size := by omega
      have hc111 : (w4.alloc (.cells #[.string j2, .string f, .string h, .slice A4 n3 c4, .slice B4 n4 d4] 59 (0, 0))).cell? ⟨w4.heap.size, 0, none⟩ = some (.string j2) := by rw [cell_of_row _ _ _ _ _ _ HF77.out]; rfl
      have hc112 : (w4.alloc (.cells #[.string j2, .string f, .string h, .slice A4 n3 c4, .slice B4 n4 d4] 59 (0, 0))).cell? ⟨w4.heap.size, 1, none⟩ = some (.string f) := by rw [cell_of_row _ _ _ _ _ _ HF77.out]; rfl
      have hc113 : (w4.alloc (.cells #[.string j2, .string f, .string h, .slice A4 n3 c4, .slice B4 n4 d4] 59 (0, 0))).cell? ⟨w4.heap.size, 2, none⟩ = some (.string h) := by rw [cell_of_row _ _ _ _ _ _ HF77.out]; rfl
      have hc114 : (w4.alloc (.cells #[.string j2, .string f, .string h, .slice A4 n3 c4, .slice B4 n4 d4] 59 (0, 0))).cell? ⟨w4.heap.size, 3, none⟩ = some (.slice A4 n3 c4) := by rw [cell_of_row _ _ _ _ _ _ HF77.out]; rfl
      have hc115 : (w4.alloc (.cells #[.string j2, .string f, .string h, .slice A4 n3 c4, .slice B4 n4 d4] 59 (0, 0))).cell? ⟨w4.heap.size, 4, none⟩ = some (.slice B4 n4 d4) := by rw [cell_of_row _ _ _ _ _ _ HF77.out]; rfl
      go_wp2_with fail
      clear hc83 hc84 hc85 hc86 hc87 hc88 hl89 hl90 hc91 hc92 hc93 hc94 hc95 hc96 hl97 hl98 hc99 hc100 hc101 hc102 hc103 hc104 hc105 hc106 hc107 hc108 hl109 hl110 hc111 hc112 hc113 hc114 hc115
      refine (snode_yes j1 A1 A2 B1 B2 n1 c1 c2 n2 d1 d2 lA psA (w4.alloc (.cells #[.string j2, .string f, .string h, .slice A4 n3 c4, .slice B4 n4 d4] 59 (0, 0))) HQ79.out HQ80.out (by omega) (by omega)).mono ?_
      rintro e w5 ⟨rfl, hb5⟩
      have HF116 := Lib.hid (blk_below HF74.out hb5)
      have HF117 := Lib.hid (blk_below HF75.out hb5)
      have HF118 := Lib.hid (blk_below HF76.out hb5)
      have HF119 := Lib.hid (blk_below HF77.out hb5)
      have HB120 := Lib.hid (HB78.out.trans (hb5.mono HB78.out.size))
      have HQ121 := Lib.hid (HQ79.out.below hb5)
      clear HQ79
      have HQ122 := Lib.hid (HQ80.out.below hb5)
      clear HQ80
      have HQ123 := Lib.hid (HQ81.out.below hb5)
      clear HQ81
      have HQ124 := Lib.hid (HQ82.out.below hb5)
      clear HQ82
      clear hb5 HB78 HF74 HF64 HF75 HF65 HF76 HF66 HF77
      have hc125 : w5.cell? ⟨w3.heap.size, 0, none⟩ = some (.string j2) := by rw [cell_of_row _ _ _ _ _ _ HF118.out]; rfl
      have hc126 : w5.cell? ⟨w3.heap.size, 1, none⟩ = some (.string f) := by rw [cell_of_row _ _ _ _ _ _ HF118.out]; rfl
      have hc127 : w5.cell? ⟨w3.heap.size, 2, none⟩ = some (.string h) := by rw [cell_of_row _ _ _ _ _ _ HF118.out]; rfl
      have hc128 : w5.cell? ⟨w3.heap.size, 3, none⟩ = some (.slice A3 n3 c3) := by rw [cell_of_row _ _ _ _ _ _ HF118.out]; rfl
      have hc129 : w5.cell? ⟨w3.heap.size, 4, none⟩ = some (.slice B3 n4 d3) := by rw [cell_of_row _ _ _ _ _ _ HF118.out]; rfl
      have hc130 : w5.cell? ⟨w4.heap.size, 0, none⟩ = some (.string j2) := by rw [cell_of_row _ _ _ _ _ _ HF119.out]; rfl
      have hc131 : w5.cell? ⟨w4.heap.size, 1, none⟩ = some (.string f) := by rw [cell_of_row _ _ _ _ _ _ HF119.out]; rfl
      have hc132 : w5.cell? ⟨w4.heap.size, 2, none⟩ = some (.string h) := by rw [cell_of_row _ _ _ _ _ _ HF119.out]; rfl
      have hc133 : w5.cell? ⟨w4.heap.size, 3, none⟩ = some (.slice A4 n3 c4) := by rw [cell_of_row _ _ _ _ _ _ HF119.out]; rfl
      have hc134 : w5.cell? ⟨w4.heap.size, 4, none⟩ = some (.slice B4 n4 d4) := by rw [cell_of_row _ _ _ _ _ _ HF119.out]; rfl
      go_wp2_with fail
      clear hc125 hc126 hc127 hc128 hc129 hc130 hc131 hc132 hc133 hc134
      refine (sedge_yes j2 f h A3 A4 B3 B4 n3 c3 c4 n4 d3 d4 lB psB w5 HQ123.out HQ124.out (by omega) (by omega)).mono ?_
      rintro e w6 ⟨rfl, hb6⟩
      have HF135 := Lib.hid (blk_below HF116.out hb6)
      have HF136 := Lib.hid (blk_below HF117.out hb6)
      have HF137 := Lib.hid (blk_below HF118.out hb6)
      have HF138 := Lib.hid (blk_below HF119.out hb6)
      have HB139 := Lib.hid (HB120.out.trans (hb6.mono HB120.out.size))
      have HQ140 := Lib.hid (HQ121.out.below hb6)
      clear HQ121
      have HQ141 := Lib.hid (HQ122.out.below hb6)
      clear HQ122
      have HQ142 := Lib.hid (HQ123.out.below hb6)
      clear HQ123
      have HQ143 := Lib.hid (HQ124.out.below hb6)
      clear HQ124
      clear hb6 HB120 HF116 HF117 HF118 HF119
      go_wp2_with fail
      refine (awake25 w6).mono ?_
      rintro e w7 ⟨rfl, hb7⟩
      have HF144 := Lib.hid (blk_below HF135.out hb7)
      have HF145 := Lib.hid (blk_below HF136.out hb7)
      have HF146 := Lib.hid (blk_below HF137.out hb7)
      have HF147 := Lib.hid (blk_below HF138.out hb7)
      have HB148 := Lib.hid (HB139.out.trans (hb7.mono HB139.out.size))
      have HQ149 := Lib.hid (HQ140.out.below hb7)
      clear HQ140
      have HQ150 := Lib.hid (HQ141.out.below hb7)
      clear HQ141
      have HQ151 := Lib.hid (HQ142.out.below hb7)
      clear HQ142
      have HQ152 := Lib.hid (HQ143.out.below hb7)
      clear HQ143
      clear hb7 HB139 HF135 HF136 HF137 HF138
      go_wp2_with fail
      go_ret
      exact ⟨rfl, HB148.out⟩
  · rcases hc2 with ⟨rfl, rfl⟩ | ⟨rfl, rfl⟩
    · have HB1 := Lib.hid (Below.refl w.heap.size w)
      go_enter Try.func7, Try.ntmps7
      go_wp2_with fail
      refine (HN1.out w).mono ?_
      rintro e w1 ⟨A1, c1, B1, d1, rfl, hlp, hb1⟩
      have HB2 := Lib.hid (HB1.out.trans (hb1.mono (by have := HB1.out.size; simp at this ⊢ <;> omega)))
      clear hb1 HB1 
      have HP1 := Lib.hid hlp
      clear hlp
      have HF3 := Lib.hid (blk_new w1 (.cells #[.string j1, .slice A1 n1 c1, .slice B1 n2 d1] 48 (0, 0)))
      have HB4 := Lib.hid (HB2.out.alloc HB2.out.size (.cells #[.string j1, .slice A1 n1 c1, .slice B1 n2 d1] 48 (0, 0)))
      clear HB2
      have HQ5 := Lib.hid (HP1.out.below ((Below.refl _ w1).alloc (Nat.le_refl _) (.cells #[.string j1, .slice A1 n1 c1, .slice B1 n2 d1] 48 (0, 0))))
      clear HP1
      have hc6 : (w1.alloc (.cells #[.string j1, .slice A1 n1 c1, .slice B1 n2 d1] 48 (0, 0))).cell? ⟨w1.heap.size, 0, none⟩ = some (.string j1) := by rw [cell_of_row _ _ _ _ _ _ HF3.out]; rfl
      have hc7 : (w1.alloc (.cells #[.string j1, .slice A1 n1 c1, .slice B1 n2 d1] 48 (0, 0))).cell? ⟨w1.heap.size, 1, none⟩ = some (.slice A1 n1 c1) := by rw [cell_of_row _ _ _ _ _ _ HF3.out]; rfl
      have hc8 : (w1.alloc (.cells #[.string j1, .slice A1 n1 c1, .slice B1 n2 d1] 48 (0, 0))).cell? ⟨w1.heap.size, 2, none⟩ = some (.slice B1 n2 d1) := by rw [cell_of_row _ _ _ _ _ _ HF3.out]; rfl
      go_wp2_with fail
      clear hc6 hc7 hc8
      refine (HN2.out (w1.alloc (.cells #[.string j1, .slice A1 n1 c1, .slice B1 n2 d1] 48 (0, 0)))).mono ?_
      rintro e w2 ⟨A2, c2, B2, d2, rfl, hlp, hb2⟩
      have HF9 := Lib.hid (blk_below HF3.out hb2)
      have HB10 := Lib.hid (HB4.out.trans (hb2.mono (by have := HB4.out.size; simp at this ⊢ <;> omega)))
      have HQ11 := Lib.hid (HQ5.out.below hb2)
      clear HQ5
      clear hb2 HB4 HF3
      have HP2 := Lib.hid hlp
      clear hlp
      have hk12 : w1.heap.size < w2.heap.size := lt_of_block HF9.out
      have HF13 := Lib.hid (blk_alloc HF9.out (.cells #[.string j1, .slice A2 n1 c2, .slice B2 n2 d2] 48 (0, 0)))
      have HF14 := Lib.hid (blk_new w2 (.cells #[.string j1, .slice A2 n1 c2, .slice B2 n2 d2] 48 (0, 0)))
      have HB15 := Lib.hid (HB10.out.alloc HB10.out.size (.cells #[.string j1, .slice A2 n1 c2, .slice B2 n2 d2] 48 (0, 0)))
      clear HB10
      have HQ16 := Lib.hid (HQ11.out.below ((Below.refl _ w2).alloc (Nat.le_refl _) (.cells #[.string j1, .slice A2 n1 c2, .slice B2 n2 d2] 48 (0, 0))))
      clear HQ11
      have HQ17 := Lib.hid (HP2.out.below ((Below.refl _ w2).alloc (Nat.le_refl _) (.cells #[.string j1, .slice A2 n1 c2, .slice B2 n2 d2] 48 (0, 0))))
      clear HP2
      have hc18 : (w2.alloc (.cells #[.string j1, .slice A2 n1 c2, .slice B2 n2 d2] 48 (0, 0))).cell? ⟨w1.heap.size, 0, none⟩ = some (.string j1) := by rw [cell_of_row _ _ _ _ _ _ HF13.out]; rfl
      have hc19 : w2.cell? ⟨w1.heap.size, 0, none⟩ = some (.string j1) := by rw [cell_of_row _ _ _ _ _ _ HF9.out]; rfl
      have hc20 : (w2.alloc (.cells #[.string j1, .slice A2 n1 c2, .slice B2 n2 d2] 48 (0, 0))).cell? ⟨w1.heap.size, 1, none⟩ = some (.slice A1 n1 c1) := by rw [cell_of_row _ _ _ _ _ _ HF13.out]; rfl
      have hc21 : w2.cell? ⟨w1.heap.size, 1, none⟩ = some (.slice A1 n1 c1) := by rw [cell_of_row _ _ _ _ _ _ HF9.out]; rfl
      have hc22 : (w2.alloc (.cells #[.string j1, .slice A2 n1 c2, .slice B2 n2 d2] 48 (0, 0))).cell? ⟨w1.heap.size, 2, none⟩ = some (.slice B1 n2 d1) := by rw [cell_of_row _ _ _ _ _ _ HF13.out]; rfl
      have hc23 : w2.cell? ⟨w1.heap.size, 2, none⟩ = some (.slice B1 n2 d1) := by rw [cell_of_row _ _ _ _ _ _ HF9.out]; rfl
      have hl24 : w1.heap.size < w2.heap.size := lt_of_block HF9.out
      have hl25 : ¬ w1.heap.size = w2.heap.size := by omega
      have hc26 : (w2.alloc (.cells #[.string j1, .slice A2 n1 c2, .slice B2 n2 d2] 48 (0, 0))).cell? ⟨w2.heap.size, 0, none⟩ = some (.string j1) := by rw [cell_of_row _ _ _ _ _ _ HF14.out]; rfl
      have hc27 : (w2.alloc (.cells #[.string j1, .slice A2 n1 c2, .slice B2 n2 d2] 48 (0, 0))).cell? ⟨w2.heap.size, 1, none⟩ = some (.slice A2 n1 c2) := by rw [cell_of_row _ _ _ _ _ _ HF14.out]; rfl
      have hc28 : (w2.alloc (.cells #[.string j1, .slice A2 n1 c2, .slice B2 n2 d2] 48 (0, 0))).cell? ⟨w2.heap.size, 2, none⟩ = some (.slice B2 n2 d2) := by rw [cell_of_row _ _ _ _ _ _ HF14.out]; rfl
      go_wp2_with fail
      clear hc18 hc19 hc20 hc21 hc22 hc23 hl24 hl25 hc26 hc27 hc28
      refine (HE1.out (w2.alloc (.cells #[.string j1, .slice A2 n1 c2, .slice B2 n2 d2] 48 (0, 0)))).mono ?_
      rintro e w3 ⟨A3, c3, B3, d3, rfl, hlp, hb3⟩
      have HF29 := Lib.hid (blk_below HF13.out hb3)
      have HF30 := Lib.hid (blk_below HF14.out hb3)
      have HB31 := Lib.hid (HB15.out.trans (hb3.mono (by have := HB15.out.size; simp at this ⊢ <;> omega)))
      have HQ32 := Lib.hid (HQ16.out.below hb3)
      clear HQ16
      have HQ33 := Lib.hid (HQ17.out.below hb3)
      clear HQ17
      clear hb3 HB15 HF13 HF9 HF14
      have HP3 := Lib.hid hlp
      clear hlp
      have hk34 : w1.heap.size < w3.heap.size := lt_of_block HF29.out
      have hk35 : w2.heap.size < w3.heap.size := lt_of_block HF30.out
      have HF36 := Lib.hid (blk_alloc HF29.out (.cells #[.string j2, .string f, .string h, .slice A3 n3 c3, .slice B3 n4 d3] 59 (0, 0)))
      have HF37 := Lib.hid (blk_alloc HF30.out (.cells #[.string j2, .string f, .string h, .slice A3 n3 c3, .slice B3 n4 d3] 59 (0, 0)))
      have HF38 := Lib.hid (blk_new w3 (.cells #[.string j2, .string f, .string h, .slice A3 n3 c3, .slice B3 n4 d3] 59 (0, 0)))
      have HB39 := Lib.hid (HB31.out.alloc HB31.out.size (.cells #[.string j2, .string f, .string h, .slice A3 n3 c3, .slice B3 n4 d3] 59 (0, 0)))
      clear HB31
      have HQ40 := Lib.hid (HQ32.out.below ((Below.refl _ w3).alloc (Nat.le_refl _) (.cells #[.string j2, .string f, .string h, .slice A3 n3 c3, .slice B3 n4 d3] 59 (0, 0))))
      clear HQ32
      have HQ41 := Lib.hid (HQ33.out.below ((Below.refl _ w3).alloc (Nat.le_refl _) (.cells #[.string j2, .string f, .string h, .slice A3 n3 c3, .slice B3 n4 d3] 59 (0, 0))))
      clear HQ33
      have HQ42 := Lib.hid (HP3.out.below ((Below.refl _ w3).alloc (Nat.le_refl _) (.cells #[.string j2, .string f, .string h, .slice A3 n3 c3, .slice B3 n4 d3] 59 (0, 0))))
      clear HP3
      have hc43 : (w3.alloc (.cells #[.string j2, .string f, .string h, .slice A3 n3 c3, .slice B3 n4 d3] 59 (0, 0))).cell? ⟨w1.heap.size, 0, none⟩ = some (.string j1) := by rw [cell_of_row _ _ _ _ _ _ HF36.out]; rfl
      have hc44 : w3.cell? ⟨w1.heap.size, 0, none⟩ = some (.string j1) := by rw [cell_of_row _ _ _ _ _ _ HF29.out]; rfl
      have hc45 : (w3.alloc (.cells #[.string j2, .string f, .string h, .slice A3 n3 c3, .slice B3 n4 d3] 59 (0, 0))).cell? ⟨w1.heap.size, 1, none⟩ = some (.slice A1 n1 c1) := by rw [cell_of_row _ _ _ _ _ _ HF36.out]; rfl
      have hc46 : w3.cell? ⟨w1.heap.size, 1, none⟩ = some (.slice A1 n1 c1) := by rw [cell_of_row _ _ _ _ _ _ HF29.out]; rfl
      have hc47 : (w3.alloc (.cells #[.string j2, .string f, .string h, .slice A3 n3 c3, .slice B3 n4 d3] 59 (0, 0))).cell? ⟨w1.heap.size, 2, none⟩ = some (.slice B1 n2 d1) := by rw [cell_of_row _ _ _ _ _ _ HF36.out]; rfl
      have hc48 : w3.cell? ⟨w1.heap.size, 2, none⟩ = some (.slice B1 n2 d1) := by rw [cell_of_row _ _ _ _ _ _ HF29.out]; rfl
      have hl49 : w1.heap.size < w3.heap.size := lt_of_block HF29.out
      have hl50 : ¬ w1.heap.size = w3.heap.size := by omega
      have hc51 : (w3.alloc (.cells #[.string j2, .string f, .string h, .slice A3 n3 c3, .slice B3 n4 d3] 59 (0, 0))).cell? ⟨w2.heap.size, 0, none⟩ = some (.string j1) := by rw [cell_of_row _ _ _ _ _ _ HF37.out]; rfl
      have hc52 : w3.cell? ⟨w2.heap.size, 0, none⟩ = some (.string j1) := by rw [cell_of_row _ _ _ _ _ _ HF30.out]; rfl
      have hc53 : (w3.alloc (.cells #[.string j2, .string f, .string h, .slice A3 n3 c3, .slice B3 n4 d3] 59 (0, 0))).cell? ⟨w2.heap.size, 1, none⟩ = some (.slice A2 n1 c2) := by rw [cell_of_row _ _ _ _ _ _ HF37.out]; rfl
      have hc54 : w3.cell? ⟨w2.heap.size, 1, none⟩ = some (.slice A2 n1 c2) := by rw [cell_of_row _ _ _ _ _ _ HF30.out]; rfl
      have hc55 : (w3.alloc (.cells #[.string j2, .string f, .string h, .slice A3 n3 c3, .slice B3 n4 d3] 59 (0, 0))).cell? ⟨w2.heap.size, 2, none⟩ = some (.slice B2 n2 d2) := by rw [cell_of_row _ _ _ _ _ _ HF37.out]; rfl
      have hc56 : w3.cell? ⟨w2.heap.size, 2, none⟩ = some (.slice B2 n2 d2) := by rw [cell_of_row _ _ _ _ _ _ HF30.out]; rfl
      have hl57 : w2.heap.size < w3.heap.size := lt_of_block HF30.out
      have hl58 : ¬ w2.heap.size = w3.heap.size := by omega
      have hc59 : (w3.alloc (.cells #[.string j2, .string f, .string h, .slice A3 n3 c3, .slice B3 n4 d3] 59 (0, 0))).cell? ⟨w3.heap.size, 0, none⟩ = some (.string j2) := by rw [cell_of_row _ _ _ _ _ _ HF38.out]; rfl
      have hc60 : (w3.alloc (.cells #[.string j2, .string f, .string h, .slice A3 n3 c3, .slice B3 n4 d3] 59 (0, 0))).cell? ⟨w3.heap.size, 1, none⟩ = some (.string f) := by rw [cell_of_row _ _ _ _ _ _ HF38.out]; rfl
      have hc61 : (w3.alloc (.cells #[.string j2, .string f, .string h, .slice A3 n3 c3, .slice B3 n4 d3] 59 (0, 0))).cell? ⟨w3.heap.size, 2, none⟩ = some (.string h) := by rw [cell_of_row _ _ _ _ _ _ HF38.out]; rfl
      have hc62 : (w3.alloc (.cells #[.string j2, .string f, .string h, .slice A3 n3 c3, .slice B3 n4 d3] 59 (0, 0))).cell? ⟨w3.heap.size, 3, none⟩ = some (.slice A3 n3 c3) := by rw [cell_of_row _ _ _ _ _ _ HF38.out]; rfl
      have hc63 : (w3.alloc (.cells #[.string j2, .string f, .string h, .slice A3 n3 c3, .slice B3 n4 d3] 59 (0, 0))).cell? ⟨w3.heap.size, 4, none⟩ = some (.slice B3 n4 d3) := by rw [cell_of_row _ _ _ _ _ _ HF38.out]; rfl
      go_wp2_with fail
      clear hc43 hc44 hc45 hc46 hc47 hc48 hl49 hl50 hc51 hc52 hc53 hc54 hc55 hc56 hl57 hl58 hc59 hc60 hc61 hc62 hc63
      refine (HE2.out (w3.alloc (.cells #[.string j2, .string f, .string h, .slice A3 n3 c3, .slice B3 n4 d3] 59 (0, 0)))).mono ?_
      rintro e w4 ⟨A4, c4, B4, d4, rfl, hlp, hb4⟩
      have HF64 := Lib.hid (blk_below HF36.out hb4)
      have HF65 := Lib.hid (blk_below HF37.out hb4)
      have HF66 := Lib.hid (blk_below HF38.out hb4)
      have HB67 := Lib.hid (HB39.out.trans (hb4.mono (by have := HB39.out.size; simp at this ⊢ <;> omega)))
      have HQ68 := Lib.hid (HQ40.out.below hb4)
      clear HQ40
      have HQ69 := Lib.hid (HQ41.out.below hb4)
      clear HQ41
      have HQ70 := Lib.hid (HQ42.out.below hb4)
      clear HQ42
      clear hb4 HB39 HF36 HF29 HF37 HF30 HF38
      have HP4 := Lib.hid hlp
      clear hlp
      have hk71 : w1.heap.size < w4.heap.size := lt_of_block HF64.out
      have hk72 : w2.heap.size < w4.heap.size := lt_of_block HF65.out
      have hk73 : w3.heap.size < w4.heap.size := lt_of_block HF66.out
      have HF74 := Lib.hid (blk_alloc HF64.out (.cells #[.string j2, .string f, .string h, .slice A4 n3 c4, .slice B4 n4 d4] 59 (0, 0)))
      have HF75 := Lib.hid (blk_alloc HF65.out (.cells #[.string j2, .string f, .string h, .slice A4 n3 c4, .slice B4 n4 d4] 59 (0, 0)))
      have HF76 := Lib.hid (blk_alloc HF66.out (.cells #[.string j2, .string f, .string h, .slice A4 n3 c4, .slice B4 n4 d4] 59 (0, 0)))
      have HF77 := Lib.hid (blk_new w4 (.cells #[.string j2, .string f, .string h, .slice A4 n3 c4, .slice B4 n4 d4] 59 (0, 0)))
      have HB78 := Lib.hid (HB67.out.alloc HB67.out.size (.cells #[.string j2, .string f, .string h, .slice A4 n3 c4, .slice B4 n4 d4] 59 (0, 0)))
      clear HB67
      have HQ79 := Lib.hid (HQ68.out.below ((Below.refl _ w4).alloc (Nat.le_refl _) (.cells #[.string j2, .string f, .string h, .slice A4 n3 c4, .slice B4 n4 d4] 59 (0, 0))))
      clear HQ68
      have HQ80 := Lib.hid (HQ69.out.below ((Below.refl _ w4).alloc (Nat.le_refl _) (.cells #[.string j2, .string f, .string h, .slice A4 n3 c4, .slice B4 n4 d4] 59 (0, 0))))
      clear HQ69
      have HQ81 := Lib.hid (HQ70.out.below ((Below.refl _ w4).alloc (Nat.le_refl _) (.cells #[.string j2, .string f, .string h, .slice A4 n3 c4, .slice B4 n4 d4] 59 (0, 0))))
      clear HQ70
      have HQ82 := Lib.hid (HP4.out.below ((Below.refl _ w4).alloc (Nat.le_refl _) (.cells #[.string j2, .string f, .string h, .slice A4 n3 c4, .slice B4 n4 d4] 59 (0, 0))))
      clear HP4
      have hc83 : (w4.alloc (.cells #[.string j2, .string f, .string h, .slice A4 n3 c4, .slice B4 n4 d4] 59 (0, 0))).cell? ⟨w1.heap.size, 0, none⟩ = some (.string j1) := by rw [cell_of_row _ _ _ _ _ _ HF74.out]; rfl
      have hc84 : w4.cell? ⟨w1.heap.size, 0, none⟩ = some (.string j1) := by rw [cell_of_row _ _ _ _ _ _ HF64.out]; rfl
      have hc85 : (w4.alloc (.cells #[.string j2, .string f, .string h, .slice A4 n3 c4, .slice B4 n4 d4] 59 (0, 0))).cell? ⟨w1.heap.size, 1, none⟩ = some (.slice A1 n1 c1) := by rw [cell_of_row _ _ _ _ _ _ HF74.out]; rfl
      have hc86 : w4.cell? ⟨w1.heap.size, 1, none⟩ = some (.slice A1 n1 c1) := by rw [cell_of_row _ _ _ _ _ _ HF64.out]; rfl
      have hc87 : (w4.alloc (.cells #[.string j2, .string f, .string h, .slice A4 n3 c4, .slice B4 n4 d4] 59 (0, 0))).cell? ⟨w1.heap.size, 2, none⟩ = some (.slice B1 n2 d1) := by rw [cell_of_row _ _ _ _ _ _ HF74.out]; rfl
      have hc88 : w4.cell? ⟨w1.heap.size, 2, none⟩ = some (.slice B1 n2 d1) := by rw [cell_of_row _ _ _ _ _ _ HF64.out]; rfl
      have hl89 : w1.heap.size < w4.heap.size := lt_of_block HF64.out
      have hl90 : ¬ w1.heap.size = w4.heap.size := by omega
      have hc91 : (w4.alloc (.cells #[.string j2, .string f, .string h, .slice A4 n3 c4, .slice B4 n4 d4] 59 (0, 0))).cell? ⟨w2.heap.size, 0, none⟩ = some (.string j1) := by rw [cell_of_row _ _ _ _ _ _ HF75.out]; rfl
      have hc92 : w4.cell? ⟨w2.heap.size, 0, none⟩ = some (.string j1) := by rw [cell_of_row _ _ _ _ _ _ HF65.out]; rfl
      have hc93 : (w4.alloc (.cells #[.string j2, .string f, .string h, .slice A4 n3 c4, .slice B4 n4 d4] 59 (0, 0))).cell? ⟨w2.heap.size, 1, none⟩ = some (.slice A2 n1 c2) := by rw [cell_of_row _ _ _ _ _ _ HF75.out]; rfl
      have hc94 : w4.cell? ⟨w2.heap.size, 1, none⟩ = some (.slice A2 n1 c2) := by rw [cell_of_row _ _ _ _ _ _ HF65.out]; rfl
      have hc95 : (w4.alloc (.cells #[.string j2, .string f, .string h, .slice A4 n3 c4, .slice B4 n4 d4] 59 (0, 0))).cell? ⟨w2.heap.size, 2, none⟩ = some (.slice B2 n2 d2) := by rw [cell_of_row _ _ _ _ _ _ HF75.out]; rfl
      have hc96 : w4.cell? ⟨w2.heap.size, 2, none⟩ = some (.slice B2 n2 d2) := by rw [cell_of_row _ _ _ _ _ _ HF65.out]; rfl
      have hl97 : w2.heap.size < w4.heap.size := lt_of_block HF65.out
      have hl98 : ¬ w2.heap.size = w4.heap.size := by omega
      have hc99 : (w4.alloc (.cells #[.string j2, .string f, .string h, .slice A4 n3 c4, .slice B4 n4 d4] 59 (0, 0))).cell? ⟨w3.heap.size, 0, none⟩ = some (.string j2) := by rw [cell_of_row _ _ _ _ _ _ HF76.out]; rfl
      have hc100 : w4.cell? ⟨w3.heap.size, 0, none⟩ = some (.string j2) := by rw [cell_of_row _ _ _ _ _ _ HF66.out]; rfl
      have hc101 : (w4.alloc (.cells #[.string j2, .string f, .string h, .slice A4 n3 c4, .slice B4 n4 d4] 59 (0, 0))).cell? ⟨w3.heap.size, 1, none⟩ = some (.string f) := by rw [cell_of_row _ _ _ _ _ _ HF76.out]; rfl
      have hc102 : w4.cell? ⟨w3.heap.size, 1, none⟩ = some (.string f) := by rw [cell_of_row _ _ _ _ _ _ HF66.out]; rfl
      have hc103 : (w4.alloc (.cells #[.string j2, .string f, .string h, .slice A4 n3 c4, .slice B4 n4 d4] 59 (0, 0))).cell? ⟨w3.heap.size, 2, none⟩ = some (.string h) := by rw [cell_of_row _ _ _ _ _ _ HF76.out]; rfl
      have hc104 : w4.cell? ⟨w3.heap.size, 2, none⟩ = some (.string h) := by rw [cell_of_row _ _ _ _ _ _ HF66.out]; rfl
      have hc105 : (w4.alloc (.cells #[.string j2, .string f, .string h, .slice A4 n3 c4, .slice B4 n4 d4] 59 (0, 0))).cell? ⟨w3.heap.size, 3, none⟩ = some (.slice A3 n3 c3) := by rw [cell_of_row _ _ _ _ _ _ HF76.out]; rfl
      have hc106 : w4.cell? ⟨w3.heap.size, 3, none⟩ = some (.slice A3 n3 c3) := by rw [cell_of_row _ _ _ _ _ _ HF66.out]; rfl
      have hc107 : (w4.alloc (.cells #[.string j2, .string f, .string h, .slice A4 n3 c4, .slice B4 n4 d4] 59 (0, 0))).cell? ⟨w3.heap.size, 4, none⟩ = some (.slice B3 n4 d3) := by rw [cell_of_row _ _ _ _ _ _ HF76.out]; rfl
      have hc108 : w4.cell? ⟨w3.heap.size, 4, none⟩ = some (.slice B3 n4 d3) := by rw [cell_of_row _ _ _ _ _ _ HF66.out]; rfl
      have hl109 : w3.heap.size < w4.heap.size := lt_of_block HF66.out
      have hl110 : ¬ w3.heap.size = w4.heap.size := by omega
      have hc111 : (w4.alloc (.cells #[.string j2, .string f, .string h, .slice A4 n3 c4, .slice B4 n4 d4] 59 (0, 0))).cell? ⟨w4.heap.size, 0, none⟩ = some (.string j2) := by rw [cell_of_row _ _ _ _ _ _ HF77.out]; rfl
      have hc112 : (w4.alloc (.cells #[.string j2, .string f, .string h, .slice A4 n3 c4, .slice B4 n4 d4] 59 (0, 0))).cell? ⟨w4.heap.size, 1, none⟩ = some (.string f) := by rw [cell_of_row _ _ _ _ _ _ HF77.out]; rfl
      have hc113 : (w4.alloc (.cells #[.string j2, .string f, .string h, .slice A4 n3 c4, .slice B4 n4 d4] 59 (0, 0))).cell? ⟨w4.heap.size, 2, none⟩ = some (.string h) := by rw [cell_of_row _ _ _ _ _ _ HF77.out]; rfl
      have hc114 : (w4.alloc (.cells #[.string j2, .string f, .string h, .slice A4 n3 c4, .slice B4 n4 d4] 59 (0, 0))).cell? ⟨w4.heap.size, 3, none⟩ = some (.slice A4 n3 c4) := by rw [cell_of_row _ _ _ _ _ _ HF77.out]; rfl
      have hc115 : (w4.alloc (.cells #[.string j2, .string f, .string h, .slice A4 n3 c4, .slice B4 n4 d4] 59 (0, 0))).cell? ⟨w4.heap.size, 4, none⟩ = some (.slice B4 n4 d4) := by rw [cell_of_row _ _ _ _ _ _ HF77.out]; rfl
      go_wp2_with fail
      clear hc83 hc84 hc85 hc86 hc87 hc88 hl89 hl90 hc91 hc92 hc93 hc94 hc95 hc96 hl97 hl98 hc99 hc100 hc101 hc102 hc103 hc104 hc105 hc106 hc107 hc108 hl109 hl110 hc111 hc112 hc113 hc114 hc115
      refine (snode_yes j1 A1 A2 B1 B2 n1 c1 c2 n2 d1 d2 lA psA (w4.alloc (.cells #[.string j2, .string f, .string h, .slice A4 n3 c4, .slice B4 n4 d4] 59 (0, 0))) HQ79.out HQ80.out (by omega) (by omega)).mono ?_
      rintro e w5 ⟨rfl, hb5⟩
      have HF116 := Lib.hid (blk_below HF74.out hb5)
      have HF117 := Lib.hid (blk_below HF75.out hb5)
      have HF118 := Lib.hid (blk_below HF76.out hb5)
      have HF119 := Lib.hid (blk_below HF77.out hb5)
      have HB120 := Lib.hid (HB78.out.trans (hb5.mono HB78.out.size))
      have HQ121 := Lib.hid (HQ79.out.below hb5)
      clear HQ79
      have HQ122 := Lib.hid (HQ80.out.below hb5)
      clear HQ80
      have HQ123 := Lib.hid (HQ81.out.below hb5)
      clear HQ81
      have HQ124 := Lib.hid (HQ82.out.below hb5)
      clear HQ82
      clear hb5 HB78 HF74 HF64 HF75 HF65 HF76 HF66 HF77
      have hc125 : w5.cell? ⟨w3.heap.size, 0, none⟩ = some (.string j2) := by rw [cell_of_row _ _ _ _ _ _ HF118.out]; rfl
      have hc126 : w5.cell? ⟨w3.heap.size, 1, none⟩ = some (.string f) := by rw [cell_of_row _ _ _ _ _ _ HF118.out]; rfl
      have hc127 : w5.cell? ⟨w3.heap.size, 2, none⟩ = some (.string h) := by rw [cell_of_row _ _ _ _ _ _ HF118.out]; rfl
      have hc128 : w5.cell? ⟨w3.heap.size, 3, none⟩ = some (.slice A3 n3 c3) := by rw [cell_of_row _ _ _ _ _ _ HF118.out]; rfl
      have hc129 : w5.cell? ⟨w3.heap.size, 4, none⟩ = some (.slice B3 n4 d3) := by rw [cell_of_row _ _ _ _ _ _ HF118.out]; rfl
      have hc130 : w5.cell? ⟨w4.heap.size, 0, none⟩ = some (.string j2) := by rw [cell_of_row _ _ _ _ _ _ HF119.out]; rfl
      have hc131 : w5.cell? ⟨w4.heap.size, 1, none⟩ = some (.string f) := by rw [cell_of_row _ _ _ _ _ _ HF119.out]; rfl
      have hc132 : w5.cell? ⟨w4.heap.size, 2, none⟩ = some (.string h) := by rw [cell_of_row _ _ _ _ _ _ HF119.out]; rfl
      have hc133 : w5.cell? ⟨w4.heap.size, 3, none⟩ = some (.slice A4 n3 c4) := by rw [cell_of_row _ _ _ _ _ _ HF119.out]; rfl
      have hc134 : w5.cell? ⟨w4.heap.size, 4, none⟩ = some (.slice B4 n4 d4) := by rw [cell_of_row _ _ _ _ _ _ HF119.out]; rfl
      go_wp2_with fail
      clear hc125 hc126 hc127 hc128 hc129 hc130 hc131 hc132 hc133 hc134
      refine (sedge_yes j2 f h A3 A4 B3 B4 n3 c3 c4 n4 d3 d4 lB psB w5 HQ123.out HQ124.out (by omega) (by omega)).mono ?_
      rintro e w6 ⟨rfl, hb6⟩
      have HF135 := Lib.hid (blk_below HF116.out hb6)
      have HF136 := Lib.hid (blk_below HF117.out hb6)
      have HF137 := Lib.hid (blk_below HF118.out hb6)
      have HF138 := Lib.hid (blk_below HF119.out hb6)
      have HB139 := Lib.hid (HB120.out.trans (hb6.mono HB120.out.size))
      have HQ140 := Lib.hid (HQ121.out.below hb6)
      clear HQ121
      have HQ141 := Lib.hid (HQ122.out.below hb6)
      clear HQ122
      have HQ142 := Lib.hid (HQ123.out.below hb6)
      clear HQ123
      have HQ143 := Lib.hid (HQ124.out.below hb6)
      clear HQ124
      clear hb6 HB120 HF116 HF117 HF118 HF119
      go_wp2_with fail
      refine (awake25 w6).mono ?_
      rintro e w7 ⟨rfl, hb7⟩
      have HF144 := Lib.hid (blk_below HF135.out hb7)
      have HF145 := Lib.hid (blk_below HF136.out hb7)
      have HF146 := Lib.hid (blk_below HF137.out hb7)
      have HF147 := Lib.hid (blk_below HF138.out hb7)
      have HB148 := Lib.hid (HB139.out.trans (hb7.mono HB139.out.size))
      have HQ149 := Lib.hid (HQ140.out.below hb7)
      clear HQ140
      have HQ150 := Lib.hid (HQ141.out.below hb7)
      clear HQ141
      have HQ151 := Lib.hid (HQ142.out.below hb7)
      clear HQ142
      have HQ152 := Lib.hid (HQ143.out.below hb7)
      clear HQ143
      clear hb7 HB139 HF135 HF136 HF137 HF138
      go_wp2_with fail
      go_ret
      exact ⟨rfl, HB148.out⟩
    · have HB1 := Lib.hid (Below.refl w.heap.size w)
      go_enter Try.func7, Try.ntmps7
      go_wp2_with fail
      refine (HN1.out w).mono ?_
      rintro e w1 ⟨A1, c1, B1, d1, rfl, hlp, hb1⟩
      have HB2 := Lib.hid (HB1.out.trans (hb1.mono (by have := HB1.out.size; simp at this ⊢ <;> omega)))
      clear hb1 HB1 
      have HP1 := Lib.hid hlp
      clear hlp
      have HF3 := Lib.hid (blk_new w1 (.cells #[.string j1, .slice A1 n1 c1, .slice B1 n2 d1] 48 (0, 0)))
      have HB4 := Lib.hid (HB2.out.alloc HB2.out.size (.cells #[.string j1, .slice A1 n1 c1, .slice B1 n2 d1] 48 (0, 0)))
      clear HB2
      have HQ5 := Lib.hid (HP1.out.below ((Below.refl _ w1).alloc (Nat.le_refl _) (.cells #[.string j1, .slice A1 n1 c1, .slice B1 n2 d1] 48 (0, 0))))
      clear HP1
      have hc6 : (w1.alloc (.cells #[.string j1, .slice A1 n1 c1, .slice B1 n2 d1] 48 (0, 0))).cell? ⟨w1.heap.size, 0, none⟩ = some (.string j1) := by rw [cell_of_row _ _ _ _ _ _ HF3.out]; rfl
      have hc7 : (w1.alloc (.cells #[.string j1, .slice A1 n1 c1, .slice B1 n2 d1] 48 (0, 0))).cell? ⟨w1.heap.size, 1, none⟩ = some (.slice A1 n1 c1) := by rw [cell_of_row _ _ _ _ _ _ HF3.out]; rfl
      have hc8 : (w1.alloc (.cells #[.string j1, .slice A1 n1 c1, .slice B1 n2 d1] 48 (0, 0))).cell? ⟨w1.heap.size, 2, none⟩ = some (.slice B1 n2 d1) := by rw [cell_of_row _ _ _ _ _ _ HF3.out]; rfl
      go_wp2_with fail
      clear hc6 hc7 hc8
      refine (HN2.out (w1.alloc (.cells #[.string j1, .slice A1 n1 c1, .slice B1 n2 d1] 48 (0, 0)))).mono ?_
      rintro e w2 ⟨A2, c2, B2, d2, rfl, hlp, hb2⟩
      have HF9 := Lib.hid (blk_below HF3.out hb2)
      have HB10 := Lib.hid (HB4.out.trans (hb2.mono (by have := HB4.out.size; simp at this ⊢ <;> omega)))
      have HQ11 := Lib.hid (HQ5.out.below hb2)
      clear HQ5
      clear hb2 HB4 HF3
      have HP2 := Lib.hid hlp
      clear hlp
      have hk12 : w1.heap.size < w2.heap.size := lt_of_block HF9.out
      have HF13 := Lib.hid (blk_alloc HF9.out (.cells #[.string j1, .slice A2 n1 c2, .slice B2 n2 d2] 48 (0, 0)))
      have HF14 := Lib.hid (blk_new w2 (.cells #[.string j1, .slice A2 n1 c2, .slice B2 n2 d2] 48 (0, 0)))
      have HB15 := Lib.hid (HB10.out.alloc HB10.out.size (.cells #[.string j1, .slice A2 n1 c2, .slice B2 n2 d2] 48 (0, 0)))
      clear HB10
      have HQ16 := Lib.hid (HQ11.out.below ((Below.refl _ w2).alloc (Nat.le_refl _) (.cells #[.string j1, .slice A2 n1 c2, .slice B2 n2 d2] 48 (0, 0))))
      clear HQ11
      have HQ17 := Lib.hid (HP2.out.below ((Below.refl _ w2).alloc (Nat.le_refl _) (.cells #[.string j1, .slice A2 n1 c2, .slice B2 n2 d2] 48 (0, 0))))
      clear HP2
      have hc18 : (w2.alloc (.cells #[.string j1, .slice A2 n1 c2, .slice B2 n2 d2] 48 (0, 0))).cell? ⟨w1.heap.size, 0, none⟩ = some (.string j1) := by rw [cell_of_row _ _ _ _ _ _ HF13.out]; rfl
      have hc19 : w2.cell? ⟨w1.heap.size, 0, none⟩ = some (.string j1) := by rw [cell_of_row _ _ _ _ _ _ HF9.out]; rfl
      have hc20 : (w2.alloc (.cells #[.string j1, .slice A2 n1 c2, .slice B2 n2 d2] 48 (0, 0))).cell? ⟨w1.heap.size, 1, none⟩ = some (.slice A1 n1 c1) := by rw [cell_of_row _ _ _ _ _ _ HF13.out]; rfl
      have hc21 : w2.cell? ⟨w1.heap.size, 1, none⟩ = some (.slice A1 n1 c1) := by rw [cell_of_row _ _ _ _ _ _ HF9.out]; rfl
      have hc22 : (w2.alloc (.cells #[.string j1, .slice A2 n1 c2, .slice B2 n2 d2] 48 (0, 0))).cell? ⟨w1.heap.size, 2, none⟩ = some (.slice B1 n2 d1) := by rw [cell_of_row _ _ _ _ _ _ HF13.out]; rfl
      have hc23 : w2.cell? ⟨w1.heap.size, 2, none⟩ = some (.slice B1 n2 d1) := by rw [cell_of_row _ _ _ _ _ _ HF9.out]; rfl
      have hl24 : w1.heap.size < w2.heap.size := lt_of_block HF9.out
      have hl25 : ¬ w1.heap.size = w2.heap.size := by omega
      have hc26 : (w2.alloc (.cells #[.string j1, .slice A2 n1 c2, .slice B2 n2 d2] 48 (0, 0))).cell? ⟨w2.heap.size, 0, none⟩ = some (.string j1) := by rw [cell_of_row _ _ _ _ _ _ HF14.out]; rfl
      have hc27 : (w2.alloc (.cells #[.string j1, .slice A2 n1 c2, .slice B2 n2 d2] 48 (0, 0))).cell? ⟨w2.heap.size, 1, none⟩ = some (.slice A2 n1 c2) := by rw [cell_of_row _ _ _ _ _ _ HF14.out]; rfl
      have hc28 : (w2.alloc (.cells #[.string j1, .slice A2 n1 c2, .slice B2 n2 d2] 48 (0, 0))).cell? ⟨w2.heap.size, 2, none⟩ = some (.slice B2 n2 d2) := by rw [cell_of_row _ _ _ _ _ _ HF14.out]; rfl
      go_wp2_with fail
      clear hc18 hc19 hc20 hc21 hc22 hc23 hl24 hl25 hc26 hc27 hc28
      refine (HE1.out (w2.alloc (.cells #[.string j1, .slice A2 n1 c2, .slice B2 n2 d2] 48 (0, 0)))).mono ?_
      rintro e w3 ⟨A3, c3, B3, d3, rfl, hlp, hb3⟩
      have HF29 := Lib.hid (blk_below HF13.out hb3)
      have HF30 := Lib.hid (blk_below HF14.out hb3)
      have HB31 := Lib.hid (HB15.out.trans (hb3.mono (by have := HB15.out.size; simp at this ⊢ <;> omega)))
      have HQ32 := Lib.hid (HQ16.out.below hb3)
      clear HQ16
      have HQ33 := Lib.hid (HQ17.out.below hb3)
      clear HQ17
      clear hb3 HB15 HF13 HF9 HF14
      have HP3 := Lib.hid hlp
      clear hlp
      have hk34 : w1.heap.size < w3.heap.size := lt_of_block HF29.out
      have hk35 : w2.heap.size < w3.heap.size := lt_of_block HF30.out
      have HF36 := Lib.hid (blk_alloc HF29.out (.cells #[.string j2, .string f, .string h, .slice A3 n3 c3, .slice B3 n4 d3] 59 (0, 0)))
      have HF37 := Lib.hid (blk_alloc HF30.out (.cells #[.string j2, .string f, .string h, .slice A3 n3 c3, .slice B3 n4 d3] 59 (0, 0)))
      have HF38 := Lib.hid (blk_new w3 (.cells #[.string j2, .string f, .string h, .slice A3 n3 c3, .slice B3 n4 d3] 59 (0, 0)))
      have HB39 := Lib.hid (HB31.out.alloc HB31.out.size (.cells #[.string j2, .string f, .string h, .slice A3 n3 c3, .slice B3 n4 d3] 59 (0, 0)))
      clear HB31
      have HQ40 := Lib.hid (HQ32.out.below ((Below.refl _ w3).alloc (Nat.le_refl _) (.cells #[.string j2, .string f, .string h, .slice A3 n3 c3, .slice B3 n4 d3] 59 (0, 0))))
      clear HQ32
      have HQ41 := Lib.hid (HQ33.out.below ((Below.refl _ w3).alloc (Nat.le_refl _) (.cells #[.string j2, .string f, .string h, .slice A3 n3 c3, .slice B3 n4 d3] 59 (0, 0))))
      clear HQ33
      have HQ42 := Lib.hid (HP3.out.below ((Below.refl _ w3).alloc (Nat.le_refl _) (.cells #[.string j2, .string f, .string h, .slice A3 n3 c3, .slice B3 n4 d3] 59 (0, 0))))
      clear HP3
      have hc43 : (w3.alloc (.cells #[.string j2, .string f, .string h, .slice A3 n3 c3, .slice B3 n4 d3] 59 (0, 0))).cell? ⟨w1.heap.size, 0, none⟩ = some (.string j1) := by rw [cell_of_row _ _ _ _ _ _ HF36.out]; rfl
      have hc44 : w3.cell? ⟨w1.heap.size, 0, none⟩ = some (.string j1) := by rw [cell_of_row _ _ _ _ _ _ HF29.out]; rfl
      have hc45 : (w3.alloc (.cells #[.string j2, .string f, .string h, .slice A3 n3 c3, .slice B3 n4 d3] 59 (0, 0))).cell? ⟨w1.heap.size, 1, none⟩ = some (.slice A1 n1 c1) := by rw [cell_of_row _ _ _ _ _ _ HF36.out]; rfl
      have hc46 : w3.cell? ⟨w1.heap.size, 1, none⟩ = some (.slice A1 n1 c1) := by rw [cell_of_row _ _ _ _ _ _ HF29.out]; rfl
      have hc47 : (w3.alloc (.cells #[.string j2, .string f, .string h, .slice A3 n3 c3, .slice B3 n4 d3] 59 (0, 0))).cell? ⟨w1.heap.size, 2, none⟩ = some (.slice B1 n2 d1) := by rw [cell_of_row _ _ _ _ _ _ HF36.out]; rfl
      have hc48 : w3.cell? ⟨w1.heap.size, 2, none⟩ = some (.slice B1 n2 d1) := by rw [cell_of_row _ _ _ _ _ _ HF29.out]; rfl
      have hl49 : w1.heap.size < w3.heap.size := lt_of_block HF29.out
      have hl50 : ¬ w1.heap.size = w3.heap.size := by omega
      have hc51 : (w3.alloc (.cells #[.string j2, .string f, .string h, .slice A3 n3 c3, .slice B3 n4 d3] 59 (0, 0))).cell? ⟨w2.heap.size, 0, none⟩ = some (.string j1) := by rw [cell_of_row _ _ _ _ _ _ HF37.out]; rfl
      have hc52 : w3.cell? ⟨w2.heap.size, 0, none⟩ = some (.string j1) := by rw [cell_of_row _ _ _ _ _ _ HF30.out]; rfl
      have hc53 : (w3.alloc (.cells #[.string j2, .string f, .string h, .slice A3 n3 c3, .slice B3 n4 d3] 59 (0, 0))).cell? ⟨w2.heap.size, 1, none⟩ = some (.slice A2 n1 c2) := by rw [cell_of_row _ _ _ _ _ _ HF37.out]; rfl
      have hc54 : w3.cell? ⟨w2.heap.size, 1, none⟩ = some (.slice A2 n1 c2) := by rw [cell_of_row _ _ _ _ _ _ HF30.out]; rfl
      have hc55 : (w3.alloc (.cells #[.string j2, .string f, .string h, .slice A3 n3 c3, .slice B3 n4 d3] 59 (0, 0))).cell? ⟨w2.heap.size, 2, none⟩ = some (.slice B2 n2 d2) := by rw [cell_of_row _ _ _ _ _ _ HF37.out]; rfl
      have hc56 : w3.cell? ⟨w2.heap.size, 2, none⟩ = some (.slice B2 n2 d2) := by rw [cell_of_row _ _ _ _ _ _ HF30.out]; rfl
      have hl57 : w2.heap.size < w3.heap.size := lt_of_block HF30.out
      have hl58 : ¬ w2.heap.size = w3.heap.size := by omega
      have hc59 : (w3.alloc (.cells #[.string j2, .string f, .string h, .slice A3 n3 c3, .slice B3 n4 d3] 59 (0, 0))).cell? ⟨w3.heap.size, 0, none⟩ = some (.string j2) := by rw [cell_of_row _ _ _ _ _ _ HF38.out]; rfl
      have hc60 : (w3.alloc (.cells #[.string j2, .string f, .string h, .slice A3 n3 c3, .slice B3 n4 d3] 59 (0, 0))).cell? ⟨w3.heap.size, 1, none⟩ = some (.string f) := by rw [cell_of_row _ _ _ _ _ _ HF38.out]; rfl
      have hc61 : (w3.alloc (.cells #[.string j2, .string f, .string h, .slice A3 n3 c3, .slice B3 n4 d3] 59 (0, 0))).cell? ⟨w3.heap.size, 2, none⟩ = some (.string h) := by rw [cell_of_row _ _ _ _ _ _ HF38.out]; rfl
      have hc62 : (w3.alloc (.cells #[.string j2, .string f, .string h, .slice A3 n3 c3, .slice B3 n4 d3] 59 (0, 0))).cell? ⟨w3.heap.size, 3, none⟩ = some (.slice A3 n3 c3) := by rw [cell_of_row _ _ _ _ _ _ HF38.out]; rfl
      have hc63 : (w3.alloc (.cells #[.string j2, .string f, .string h, .slice A3 n3 c3, .slice B3 n4 d3] 59 (0, 0))).cell? ⟨w3.heap.size, 4, none⟩ = some (.slice B3 n4 d3) := by rw [cell_of_row _ _ _ _ _ _ HF38.out]; rfl
      go_wp2_with fail
      clear hc43 hc44 hc45 hc46 hc47 hc48 hl49 hl50 hc51 hc52 hc53 hc54 hc55 hc56 hl57 hl58 hc59 hc60 hc61 hc62 hc63
      refine (HE2.out (w3.alloc (.cells #[.string j2, .string f, .string h, .slice A3 n3 c3, .slice B3 n4 d3] 59 (0, 0)))).mono ?_
      rintro e w4 ⟨A4, c4, B4, d4, rfl, hlp, hb4⟩
      have HF64 := Lib.hid (blk_below HF36.out hb4)
      have HF65 := Lib.hid (blk_below HF37.out hb4)
      have HF66 := Lib.hid (blk_below HF38.out hb4)
      have HB67 := Lib.hid (HB39.out.trans (hb4.mono (by have := HB39.out.size; simp at this ⊢ <;> omega)))
      have HQ68 := Lib.hid (HQ40.out.below hb4)
      clear HQ40
      have HQ69 := Lib.hid (HQ41.out.below hb4)
      clear HQ41
      have HQ70 := Lib.hid (HQ42.out.below hb4)
      clear HQ42
      clear hb4 HB39 HF36 HF29 HF37 HF30 HF38
      have HP4 := Lib.hid hlp
      clear hlp
      have hk71 : w1.heap.size < w4.heap.size := lt_of_block HF64.out
      have hk72 : w2.heap.size < w4.heap.size := lt_of_block HF65.out
      have hk73 : w3.heap.size < w4.heap.size := lt_of_block HF66.out
      have HF74 := Lib.hid (blk_alloc HF64.out (.cells #[.string j2, .string f, .string h, .slice A4 n3 c4, .slice B4 n4 d4] 59 (0, 0)))
      have HF75 := Lib.hid (blk_alloc HF65.out (.cells #[.string j2, .string f, .string h, .slice A4 n3 c4, .slice B4 n4 d4] 59 (0, 0)))
      have HF76 := Lib.hid (blk_alloc HF66.out (.cells #[.string j2, .string f, .string h, .slice A4 n3 c4, .slice B4 n4 d4] 59 (0, 0)))
      have HF77 := Lib.hid (blk_new w4 (.cells #[.string j2, .string f, .string h, .slice A4 n3 c4, .slice B4 n4 d4] 59 (0, 0)))
      have HB78 := Lib.hid (HB67.out.alloc HB67.out.size (.cells #[.string j2, .string f, .string h, .slice A4 n3 c4, .slice B4 n4 d4] 59 (0, 0)))
      clear HB67
      have HQ79 := Lib.hid (HQ68.out.below ((Below.refl _ w4).alloc (Nat.le_refl _) (.cells #[.string j2, .string f, .string h, .slice A4 n3 c4, .slice B4 n4 d4] 59 (0, 0))))
      clear HQ68
      have HQ80 := Lib.hid (HQ69.out.below ((Below.refl _ w4).alloc (Nat.le_refl _) (.cells #[.string j2, .string f, .string h, .slice A4 n3 c4, .slice B4 n4 d4] 59 (0, 0))))
      clear HQ69
      have HQ81 := Lib.hid (HQ70.out.below ((Below.refl _ w4).alloc (Nat.le_refl _) (.cells #[.string j2, .string f, .string h, .slice A4 n3 c4, .slice B4 n4 d4] 59 (0, 0))))
      clear HQ70
      have HQ82 := Lib.hid (HP4.out.below ((Below.refl _ w4).alloc (Nat.le_refl _) (.cells #[.string j2, .string f, .string h, .slice A4 n3 c4, .slice B4 n4 d4] 59 (0, 0))))
      clear HP4
      have hc83 : (w4.alloc (.cells #[.string j2, .string f, .string h, .slice A4 n3 c4, .slice B4 n4 d4] 59 (0, 0))).cell? ⟨w1.heap.size, 0, none⟩ = some (.string j1) := by rw [cell_of_row _ _ _ _ _ _ HF74.out]; rfl
      have hc84 : w4.cell? ⟨w1.heap.size, 0, none⟩ = some (.string j1) := by rw [cell_of_row _ _ _ _ _ _ HF64.out]; rfl
      have hc85 : (w4.alloc (.cells #[.string j2, .string f, .string h, .slice A4 n3 c4, .slice B4 n4 d4] 59 (0, 0))).cell? ⟨w1.heap.size, 1, none⟩ = some (.slice A1 n1 c1) := by rw [cell_of_row _ _ _ _ _ _ HF74.out]; rfl
      have hc86 : w4.cell? ⟨w1.heap.size, 1, none⟩ = some (.slice A1 n1 c1) := by rw [cell_of_row _ _ _ _ _ _ HF64.out]; rfl
      have hc87 : (w4.alloc (.cells #[.string j2, .string f, .string h, .slice A4 n3 c4, .slice B4 n4 d4] 59 (0, 0))).cell? ⟨w1.heap.size, 2, none⟩ = some (.slice B1 n2 d1) := by rw [cell_of_row _ _ _ _ _ _ HF74.out]; rfl
      have hc88 : w4.cell? ⟨w1.heap.size, 2, none⟩ = some (.slice B1 n2 d1) := by rw [cell_of_row _ _ _ _ _ _ HF64.out]; rfl
      have hl89 : w1.heap.size < w4.heap.size := lt_of_block HF64.out
      have hl90 : ¬ w1.heap.size = w4.heap.size := by omega
      have hc91 : (w4.alloc (.cells #[.string j2, .string f, .string h, .slice A4 n3 c4, .slice B4 n4 d4] 59 (0, 0))).cell? ⟨w2.heap.size, 0, none⟩ = some (.string j1) := by rw [cell_of_row _ _ _ _ _ _ HF75.out]; rfl
      have hc92 : w4.cell? ⟨w2.heap.size, 0, none⟩ = some (.string j1) := by rw [cell_of_row _ _ _ _ _ _ HF65.out]; rfl
      have hc93 : (w4.alloc (.cells #[.string j2, .string f, .string h, .slice A4 n3 c4, .slice B4 n4 d4] 59 (0, 0))).cell? ⟨w2.heap.size, 1, none⟩ = some (.slice A2 n1 c2) := by rw [cell_of_row _ _ _ _ _ _ HF75.out]; rfl
      have hc94 : w4.cell? ⟨w2.heap.size, 1, none⟩ = some (.slice A2 n1 c2) := by rw [cell_of_row _ _ _ _ _ _ HF65.out]; rfl
      have hc95 : (w4.alloc (.cells #[.string j2, .string f, .string h, .slice A4 n3 c4, .slice B4 n4 d4] 59 (0, 0))).cell? ⟨w2.heap.size, 2, none⟩ = some (.slice B2 n2 d2) := by rw [cell_of_row _ _ _ _ _ _ HF75.out]; rfl
      have hc96 : w4.cell? ⟨w2.heap.size, 2, none⟩ = some (.slice B2 n2 d2) := by rw [cell_of_row _ _ _ _ _ _ HF65.out]; rfl
      have hl97 : w2.heap.size < w4.heap.size := lt_of_block HF65.out
      have hl98 : ¬ w2.heap.size = w4.heap.size := by omega
      have hc99 : (w4.alloc (.cells #[.string j2, .string f, .string h, .slice A4 n3 c4, .slice B4 n4 d4] 59 (0, 0))).cell? ⟨w3.heap.size, 0, none⟩ = some (.string j2) := by rw [cell_of_row _ _ _ _ _ _ HF76.out]; rfl
      have hc100 : w4.cell? ⟨w3.heap.size, 0, none⟩ = some (.string j2) := by rw [cell_of_row _ _ _ _ _ _ HF66.out]; rfl
      have hc101 : (w4.alloc (.cells #[.string j2, .string f, .string h, .slice A4 n3 c4, .slice B4 n4 d4] 59 (0, 0))).cell? ⟨w3.heap.size, 1, none⟩ = some (.string f) := by rw [cell_of_row _ _ _ _ _ _ HF76.out]; rfl
      have hc102 : w4.cell? ⟨w3.heap.size, 1, none⟩ = some (.string f) := by rw [cell_of_row _ _ _ _ _ _ HF66.out]; rfl
      have hc103 : (w4.alloc (.cells #[.string j2, .string f, .string h, .slice A4 n3 c4, .slice B4 n4 d4] 59 (0, 0))).cell? ⟨w3.heap.size, 2, none⟩ = some (.string h) := by rw [cell_of_row _ _ _ _ _ _ HF76.out]; rfl
      have hc104 : w4.cell? ⟨w3.heap.size, 2, none⟩ = some (.string h) := by rw [cell_of_row _ _ _ _ _ _ HF66.out]; rfl
      have hc105 : (w4.alloc (.cells #[.string j2, .string f, .string h, .slice A4 n3 c4, .slice B4 n4 d4] 59 (0, 0))).cell? ⟨w3.heap.size, 3, none⟩ = some (.slice A3 n3 c3) := by rw [cell_of_row _ _ _ _ _ _ HF76.out]; rfl
      have hc106 : w4.cell? ⟨w3.heap.size, 3, none⟩ = some (.slice A3 n3 c3) := by rw [cell_of_row _ _ _ _ _ _ HF66.out]; rfl
      have hc107 : (w4.alloc (.cells #[.string j2, .string f, .string h, .slice A4 n3 c4, .slice B4 n4 d4] 59 (0, 0))).cell? ⟨w3.heap.size, 4, none⟩ = some (.slice B3 n4 d3) := by rw [cell_of_row _ _ _ _ _ _ HF76.out]; rfl
      have hc108 : w4.cell? ⟨w3.heap.size, 4, none⟩ = some (.slice B3 n4 d3) := by rw [cell_of_row _ _ _ _ _ _ HF66.out]; rfl
      have hl109 : w3.heap.size < w4.heap.size := lt_of_block HF66.out
      have hl110 : ¬ w3.heap.size = w4.heap.size := by omega
      have hc111 : (w4.alloc (.cells #[.string j2, .string f, .string h, .slice A4 n3 c4, .slice B4 n4 d4] 59 (0, 0))).cell? ⟨w4.heap.size, 0, none⟩ = some (.string j2) := by rw [cell_of_row _ _ _ _ _ _ HF77.out]; rfl
      have hc112 : (w4.alloc (.cells #[.string j2, .string f, .string h, .slice A4 n3 c4, .slice B4 n4 d4] 59 (0, 0))).cell? ⟨w4.heap.size, 1, none⟩ = some (.string f) := by rw [cell_of_row _ _ _ _ _ _ HF77.out]; rfl
      have hc113 : (w4.alloc (.cells #[.string j2, .string f, .string h, .slice A4 n3 c4, .slice B4 n4 d4] 59 (0, 0))).cell? ⟨w4.heap.size, 2, none⟩ = some (.string h) := by rw [cell_of_row _ _ _ _ _ _ HF77.out]; rfl
      have hc114 : (w4.alloc (.cells #[.string j2, .string f, .string h, .slice A4 n3 c4, .slice B4 n4 d4] 59 (0, 0))).cell? ⟨w4.heap.size, 3, none⟩ = some (.slice A4 n3 c4) := by rw [cell_of_row _ _ _ _ _ _ HF77.out]; rfl
      have hc115 : (w4.alloc (.cells #[.string j2, .string f, .string h, .slice A4 n3 c4, .slice B4 n4 d4] 59 (0, 0))).cell? ⟨w4.heap.size, 4, none⟩ = some (.slice B4 n4 d4) := by rw [cell_of_row _ _ _ _ _ _ HF77.out]; rfl
      go_wp2_with fail
      clear hc83 hc84 hc85 hc86 hc87 hc88 hl89 hl90 hc91 hc92 hc93 hc94 hc95 hc96 hl97 hl98 hc99 hc100 hc101 hc102 hc103 hc104 hc105 hc106 hc107 hc108 hl109 hl110 hc111 hc112 hc113 hc114 hc115
      refine (snode_yes j1 A1 A2 B1 B2 n1 c1 c2 n2 d1 d2 lA psA (w4.alloc (.cells #[.string j2, .string f, .string h, .slice A4 n3 c4, .slice B4 n4 d4] 59 (0, 0))) HQ79.out HQ80.out (by omega) (by omega)).mono ?_
      rintro e w5 ⟨rfl, hb5⟩
      have HF116 := Lib.hid (blk_below HF74.out hb5)
      have HF117 := Lib.hid (blk_below HF75.out hb5)
      have HF118 := Lib.hid (blk_below HF76.out hb5)
      have HF119 := Lib.hid (blk_below HF77.out hb5)
      have HB120 := Lib.hid (HB78.out.trans (hb5.mono HB78.out.size))
      have HQ121 := Lib.hid (HQ79.out.below hb5)
      clear HQ79
      have HQ122 := Lib.hid (HQ80.out.below hb5)
      clear HQ80
      have HQ123 := Lib.hid (HQ81.out.below hb5)
      clear HQ81
      have HQ124 := Lib.hid (HQ82.out.below hb5)
      clear HQ82
      clear hb5 HB78 HF74 HF64 HF75 HF65 HF76 HF66 HF77
      have hc125 : w5.cell? ⟨w3.heap.size, 0, none⟩ = some (.string j2) := by rw [cell_of_row _ _ _ _ _ _ HF118.out]; rfl
      have hc126 : w5.cell? ⟨w3.heap.size, 1, none⟩ = some (.string f) := by rw [cell_of_row _ _ _ _ _ _ HF118.out]; rfl
      have hc127 : w5.cell? ⟨w3.heap.size, 2, none⟩ = some (.string h) := by rw [cell_of_row _ _ _ _ _ _ HF118.out]; rfl
      have hc128 : w5.cell? ⟨w3.heap.size, 3, none⟩ = some (.slice A3 n3 c3) := by rw [cell_of_row _ _ _ _ _ _ HF118.out]; rfl
      have hc129 : w5.cell? ⟨w3.heap.size, 4, none⟩ = some (.slice B3 n4 d3) := by rw [cell_of_row _ _ _ _ _ _ HF118.out]; rfl
      have hc130 : w5.cell? ⟨w4.heap.size, 0, none⟩ = some (.string j2) := by rw [cell_of_row _ _ _ _ _ _ HF119.out]; rfl
      have hc131 : w5.cell? ⟨w4.heap.size, 1, none⟩ = some (.string f) := by rw [cell_of_row _ _ _ _ _ _ HF119.out]; rfl
      have hc132 : w5.cell? ⟨w4.heap.size, 2, none⟩ = some (.string h) := by rw [cell_of_row _ _ _ _ _ _ HF119.out]; rfl
      have hc133 : w5.cell? ⟨w4.heap.size, 3, none⟩ = some (.slice A4 n3 c4) := by rw [cell_of_row _ _ _ _ _ _ HF119.out]; rfl
      have hc134 : w5.cell? ⟨w4.heap.size, 4, none⟩ = some (.slice B4 n4 d4) := by rw [cell_of_row _ _ _ _ _ _ HF119.out]; rfl
      go_wp2_with fail
      clear hc125 hc126 hc127 hc128 hc129 hc130 hc131 hc132 hc133 hc134
      refine (sedge_yes j2 f h A3 A4 B3 B4 n3 c3 c4 n4 d3 d4 lB psB w5 HQ123.out HQ124.out (by omega) (by omega)).mono ?_
      rintro e w6 ⟨rfl, hb6⟩
      have HF135 := Lib.hid (blk_below HF116.out hb6)
      have HF136 := Lib.hid (blk_below HF117.out hb6)
      have HF137 := Lib.hid (blk_below HF118.out hb6)
      have HF138 := Lib.hid (blk_below HF119.out hb6)
      have HB139 := Lib.hid (HB120.out.trans (hb6.mono HB120.out.size))
      have HQ140 := Lib.hid (HQ121.out.below hb6)
      clear HQ121
      have HQ141 := Lib.hid (HQ122.out.below hb6)
      clear HQ122
      have HQ142 := Lib.hid (HQ123.out.below hb6)
      clear HQ123
      have HQ143 := Lib.hid (HQ124.out.below hb6)
      clear HQ124
      clear hb6 HB120 HF116 HF117 HF118 HF119
      go_wp2_with fail
      refine (awake25 w6).mono ?_
      rintro e w7 ⟨rfl, hb7⟩
      have HF144 := Lib.hid (blk_below HF135.out hb7)
      have HF145 := Lib.hid (blk_below HF136.out hb7)
      have HF146 := Lib.hid (blk_below HF137.out hb7)
      have HF147 := Lib.hid (blk_below HF138.out hb7)
      have HB148 := Lib.hid (HB139.out.trans (hb7.mono HB139.out.size))
      have HQ149 := Lib.hid (HQ140.out.below hb7)
      clear HQ140
      have HQ150 := Lib.hid (HQ141.out.below hb7)
      clear HQ141
      have HQ151 := Lib.hid (HQ142.out.below hb7)
      clear HQ142
      have HQ152 := Lib.hid (HQ143.out.below hb7)
      clear HQ143
      clear hb7 HB139 HF135 HF136 HF137 HF138
      go_wp2_with fail
      go_ret
      exact ⟨rfl, HB148.out⟩
end Go.Proofs.Ytdjjabjegmbmaaa.LElemTakes
