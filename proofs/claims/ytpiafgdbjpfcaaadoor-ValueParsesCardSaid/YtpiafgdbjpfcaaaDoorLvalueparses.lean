/- The walk of ValueParses over this translation. Conditions: what the library's variables hold. -/
import Derived.Test.YtpiafgdbjpfcaaaDoorRows
import Derived.Test.YtpiafgdbjpfcaaaDoorWy
namespace Go.Proofs.YtpiafgdbjpfcaaaDoor.LValueParses
open Go.RowKit Vi Hm

set_option maxHeartbeats 4000000 in
set_option maxRecDepth 100000 in
theorem walk (S : ByteArray) (w : World) (hT : VT w) :
    Calls Tryd.prog 3 #[.string S] w fun e w' => e = .returned (.bool true) ∧ Below w.heap.size w w' := by
  by_cases h1 : S.size ≤ 1000
  · have hd : decide ((1000 : Int) < (S.size : Int)) = false := decide_eq_false (by omega)
    have HT := Lib.hid hT
    have HP1 := Lib.hid (fun (W : World) (h : VT W) => vparse_any S W (by omega) h)
    have HP2 := Lib.hid (fun W : World => rvparse_any S W h1)
    obtain ⟨k, n, t, hv⟩ : ∃ k n t, pvV S = (k, n, t) := ⟨_, _, _, rfl⟩
    have hE : pvE S = if pvB S = true then 0 else 3 := rfl
    rw [hE] at HP1
    generalize pvB S = b at HP1 HP2
    rw [hv] at HP1 HP2
    unfold vvv at HP1 HP2
    dsimp only at HP1 HP2
    clear hv h1 hE hT
    cases b
    · rw [if_neg (by simp)] at HP1
      have HB1 := Lib.hid (Below.refl w.heap.size w)
      go_enter Tryd.func3, Tryd.ntmps3
      go_wp2_with fail
      refine (HP1.out w HT.out).mono ?_
      rintro e w1 ⟨rfl, hb1⟩
      have HB2 := Lib.hid (HB1.out.trans (hb1.mono HB1.out.size))
      clear hb1 HB1 
      have HF3 := Lib.hid (blk_new w1 (.cells #[.int .i64 k, .int .i64 n, .string t] 24 (0, 0)))
      have HB4 := Lib.hid (HB2.out.alloc HB2.out.size (.cells #[.int .i64 k, .int .i64 n, .string t] 24 (0, 0)))
      clear HB2
      go_wp2_with fail
      refine (HP2.out (w1.alloc (.cells #[.int .i64 k, .int .i64 n, .string t] 24 (0, 0)))).mono ?_
      rintro e w2 ⟨rfl, hb2⟩
      have HF5 := Lib.hid (blk_below HF3.out hb2)
      have HB6 := Lib.hid (HB4.out.trans (hb2.mono HB4.out.size))
      clear hb2 HB4 HF3
      have hk7 : w1.heap.size < w2.heap.size := lt_of_block HF5.out
      have HF8 := Lib.hid (blk_alloc HF5.out (.cells #[.int .i64 k, .int .i64 n, .string t] 24 (0, 0)))
      have HF9 := Lib.hid (blk_new w2 (.cells #[.int .i64 k, .int .i64 n, .string t] 24 (0, 0)))
      have HB10 := Lib.hid (HB6.out.alloc HB6.out.size (.cells #[.int .i64 k, .int .i64 n, .string t] 24 (0, 0)))
      clear HB6
      have hc11 : (w2.alloc (.cells #[.int .i64 k, .int .i64 n, .string t] 24 (0, 0))).cell? ⟨w1.heap.size, 0, none⟩ = some (.int .i64 k) := by rw [cell_of_row _ _ _ _ _ _ HF8.out]; rfl
      have hc12 : w2.cell? ⟨w1.heap.size, 0, none⟩ = some (.int .i64 k) := by rw [cell_of_row _ _ _ _ _ _ HF5.out]; rfl
      have hc13 : (w2.alloc (.cells #[.int .i64 k, .int .i64 n, .string t] 24 (0, 0))).cell? ⟨w1.heap.size, 1, none⟩ = some (.int .i64 n) := by rw [cell_of_row _ _ _ _ _ _ HF8.out]; rfl
      have hc14 : w2.cell? ⟨w1.heap.size, 1, none⟩ = some (.int .i64 n) := by rw [cell_of_row _ _ _ _ _ _ HF5.out]; rfl
      have hc15 : (w2.alloc (.cells #[.int .i64 k, .int .i64 n, .string t] 24 (0, 0))).cell? ⟨w1.heap.size, 2, none⟩ = some (.string t) := by rw [cell_of_row _ _ _ _ _ _ HF8.out]; rfl
      have hc16 : w2.cell? ⟨w1.heap.size, 2, none⟩ = some (.string t) := by rw [cell_of_row _ _ _ _ _ _ HF5.out]; rfl
      have hl17 : w1.heap.size < w2.heap.size := lt_of_block HF5.out
      have hl18 : ¬ w1.heap.size = w2.heap.size := by omega
      have hc19 : (w2.alloc (.cells #[.int .i64 k, .int .i64 n, .string t] 24 (0, 0))).cell? ⟨w2.heap.size, 0, none⟩ = some (.int .i64 k) := by rw [cell_of_row _ _ _ _ _ _ HF9.out]; rfl
      have hc20 : (w2.alloc (.cells #[.int .i64 k, .int .i64 n, .string t] 24 (0, 0))).cell? ⟨w2.heap.size, 1, none⟩ = some (.int .i64 n) := by rw [cell_of_row _ _ _ _ _ _ HF9.out]; rfl
      have hc21 : (w2.alloc (.cells #[.int .i64 k, .int .i64 n, .string t] 24 (0, 0))).cell? ⟨w2.heap.size, 2, none⟩ = some (.string t) := by rw [cell_of_row _ _ _ _ _ _ HF9.out]; rfl
      go_wp2_with fail
      refine (awake06 (w2.alloc (.cells #[.int .i64 k, .int .i64 n, .string t] 24 (0, 0)))).mono ?_
      rintro e w3 ⟨rfl, hb3⟩
      clear hc11 hc12 hc13 hc14 hc15 hc16 hl17 hl18 hc19 hc20 hc21
      have HF22 := Lib.hid (blk_below HF8.out hb3)
      have HF23 := Lib.hid (blk_below HF9.out hb3)
      have HB24 := Lib.hid (HB10.out.trans (hb3.mono HB10.out.size))
      clear hb3 HB10 HF8 HF5 HF9
      go_wp2_with fail
      go_ret
      exact ⟨rfl, HB24.out⟩
    · rw [if_pos rfl] at HP1
      have HB1 := Lib.hid (Below.refl w.heap.size w)
      go_enter Tryd.func3, Tryd.ntmps3
      go_wp2_with fail
      refine (HP1.out w HT.out).mono ?_
      rintro e w1 ⟨rfl, hb1⟩
      have HB2 := Lib.hid (HB1.out.trans (hb1.mono HB1.out.size))
      clear hb1 HB1 
      have HF3 := Lib.hid (blk_new w1 (.cells #[.int .i64 k, .int .i64 n, .string t] 24 (0, 0)))
      have HB4 := Lib.hid (HB2.out.alloc HB2.out.size (.cells #[.int .i64 k, .int .i64 n, .string t] 24 (0, 0)))
      clear HB2
      go_wp2_with fail
      refine (HP2.out (w1.alloc (.cells #[.int .i64 k, .int .i64 n, .string t] 24 (0, 0)))).mono ?_
      rintro e w2 ⟨rfl, hb2⟩
      have HF5 := Lib.hid (blk_below HF3.out hb2)
      have HB6 := Lib.hid (HB4.out.trans (hb2.mono HB4.out.size))
      clear hb2 HB4 HF3
      have hk7 : w1.heap.size < w2.heap.size := lt_of_block HF5.out
      have HF8 := Lib.hid (blk_alloc HF5.out (.cells #[.int .i64 k, .int .i64 n, .string t] 24 (0, 0)))
      have HF9 := Lib.hid (blk_new w2 (.cells #[.int .i64 k, .int .i64 n, .string t] 24 (0, 0)))
      have HB10 := Lib.hid (HB6.out.alloc HB6.out.size (.cells #[.int .i64 k, .int .i64 n, .string t] 24 (0, 0)))
      clear HB6
      have hc11 : (w2.alloc (.cells #[.int .i64 k, .int .i64 n, .string t] 24 (0, 0))).cell? ⟨w1.heap.size, 0, none⟩ = some (.int .i64 k) := by rw [cell_of_row _ _ _ _ _ _ HF8.out]; rfl
      have hc12 : w2.cell? ⟨w1.heap.size, 0, none⟩ = some (.int .i64 k) := by rw [cell_of_row _ _ _ _ _ _ HF5.out]; rfl
      have hc13 : (w2.alloc (.cells #[.int .i64 k, .int .i64 n, .string t] 24 (0, 0))).cell? ⟨w1.heap.size, 1, none⟩ = some (.int .i64 n) := by rw [cell_of_row _ _ _ _ _ _ HF8.out]; rfl
      have hc14 : w2.cell? ⟨w1.heap.size, 1, none⟩ = some (.int .i64 n) := by rw [cell_of_row _ _ _ _ _ _ HF5.out]; rfl
      have hc15 : (w2.alloc (.cells #[.int .i64 k, .int .i64 n, .string t] 24 (0, 0))).cell? ⟨w1.heap.size, 2, none⟩ = some (.string t) := by rw [cell_of_row _ _ _ _ _ _ HF8.out]; rfl
      have hc16 : w2.cell? ⟨w1.heap.size, 2, none⟩ = some (.string t) := by rw [cell_of_row _ _ _ _ _ _ HF5.out]; rfl
      have hl17 : w1.heap.size < w2.heap.size := lt_of_block HF5.out
      have hl18 : ¬ w1.heap.size = w2.heap.size := by omega
      have hc19 : (w2.alloc (.cells #[.int .i64 k, .int .i64 n, .string t] 24 (0, 0))).cell? ⟨w2.heap.size, 0, none⟩ = some (.int .i64 k) := by rw [cell_of_row _ _ _ _ _ _ HF9.out]; rfl
      have hc20 : (w2.alloc (.cells #[.int .i64 k, .int .i64 n, .string t] 24 (0, 0))).cell? ⟨w2.heap.size, 1, none⟩ = some (.int .i64 n) := by rw [cell_of_row _ _ _ _ _ _ HF9.out]; rfl
      have hc21 : (w2.alloc (.cells #[.int .i64 k, .int .i64 n, .string t] 24 (0, 0))).cell? ⟨w2.heap.size, 2, none⟩ = some (.string t) := by rw [cell_of_row _ _ _ _ _ _ HF9.out]; rfl
      go_wp2_with fail
      refine (awake06 (w2.alloc (.cells #[.int .i64 k, .int .i64 n, .string t] 24 (0, 0)))).mono ?_
      rintro e w3 ⟨rfl, hb3⟩
      clear hc11 hc12 hc13 hc14 hc15 hc16 hl17 hl18 hc19 hc20 hc21
      have HF22 := Lib.hid (blk_below HF8.out hb3)
      have HF23 := Lib.hid (blk_below HF9.out hb3)
      have HB24 := Lib.hid (HB10.out.trans (hb3.mono HB10.out.size))
      clear hb3 HB10 HF8 HF5 HF9
      go_wp2_with fail
      go_ret
      exact ⟨rfl, HB24.out⟩
  · have hd : decide ((1000 : Int) < (S.size : Int)) = true := decide_eq_true (by omega)
    clear h1
    have HB1 := Lib.hid (Below.refl w.heap.size w)
    go_enter Tryd.func3, Tryd.ntmps3
    go_wp2_with fail
    refine (awake06 w).mono ?_
    rintro e w1 ⟨rfl, hb1⟩
    have HB2 := Lib.hid (HB1.out.trans (hb1.mono HB1.out.size))
    clear hb1 HB1 
    go_wp2_with fail
    go_ret
    exact ⟨rfl, HB2.out⟩
end Go.Proofs.YtpiafgdbjpfcaaaDoor.LValueParses
