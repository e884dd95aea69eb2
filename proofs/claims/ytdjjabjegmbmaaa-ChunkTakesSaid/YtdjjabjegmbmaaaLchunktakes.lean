/- The walk of ChunkTakes over this translation. No condition. -/
import Derived.Test.YtdjjabjegmbmaaaMi
import Derived.Test.YtdjjabjegmbmaaaMd
namespace Go.Proofs.Ytdjjabjegmbmaaa.LChunkTakes
open Go.RowKit Vi Zp

set_option maxRecDepth 100000 in
set_option maxHeartbeats 4000000 in
theorem walk (S : ByteArray) (w : World) :
    Calls Try.prog 3 #[.string S] w fun e w' => e = .returned (.bool true) ∧ Below w.heap.size w w' := by
  by_cases hs : 5000 < S.size
  · have hd1 : decide ((5000 : Int) < (S.size : Int)) = true := decide_eq_true (by omega)
    have HB1 := Lib.hid (Below.refl w.heap.size w)
    go_enter Try.func3, Try.ntmps3
    go_wp2_with fail
    refine (awake19 w).mono ?_
    rintro e w1 ⟨rfl, hb1⟩
    have HB2 := Lib.hid (HB1.out.trans (hb1.mono HB1.out.size))
    clear hb1 HB1 
    go_wp2_with fail
    go_ret
    exact ⟨rfl, HB2.out⟩
  · have hd1 : decide ((5000 : Int) < (S.size : Int)) = false := decide_eq_false (by omega)
    by_cases hx : ∃ lv es cs, IsC S lv es cs
    · obtain ⟨lv, es, cs, hc⟩ := hx
      have C1 := Lib.hid (fun W : World => (ctake_any S W (by omega)).mono (takeCY hc (fun _ _ _ k => hc.one k)))
      have C2 := Lib.hid (fun W : World => (rtake19_any S W (by omega)).mono (takeCY hc (fun _ _ _ k => hc.one k)))
      obtain ⟨n, hn⟩ : ∃ n, n = es.length := ⟨_, rfl⟩
      obtain ⟨m, hm⟩ : ∃ n, n = cs.length := ⟨_, rfl⟩
      obtain ⟨_, _, y1, y2, y3⟩ := hc.facts
      have hm8 : m ≤ 8 := by
        rw [hm]
        by_cases hl : lv = 0
        · rw [y2 hl]; simp
        · rw [(y3 hl).2.1]; exact y1
      have hn8 : n ≤ 8 := by omega
      have HN := Lib.hid hn
      have HM := Lib.hid hm
      clear hc y2 y3 y1 hn hm
      have HB1 := Lib.hid (Below.refl w.heap.size w)
      go_enter Try.func3, Try.ntmps3
      go_wp2_with fail
      refine (C1.out w).mono ?_
      rintro e w1 ⟨vE, vC, rfl, hoe, hoc, hb1, hz1⟩
      obtain ⟨A1, c1, hv1, hr1, _, _⟩ := hoe.rd enC_len
      obtain ⟨A2, c2, hv2, hr2, _, _⟩ := hoc.rd inC_len
      rw [← HN.out] at hv1 hr1
      rw [← HM.out] at hv2 hr2
      subst hv1 hv2
      have HR1 := Lib.hid (show ChR w1 A1 A2 n m es cs from ⟨hr1, hr2⟩)
      clear hr1 hr2 hoe hoc
      have HB2 := Lib.hid (HB1.out.trans (hb1.mono (by have := HB1.out.size; simp at this ⊢ <;> omega)))
      clear hz1
      have HF3 := Lib.hid (blk_new w1 (.cells #[.int .i64 lv, .slice A1 n c1, .slice A2 m c2] 26 (0, 0)))
      have HB4 := Lib.hid (HB2.out.alloc HB2.out.size (.cells #[.int .i64 lv, .slice A1 n c1, .slice A2 m c2] 26 (0, 0)))
      clear HB2
      have hc5 : (w1.alloc (.cells #[.int .i64 lv, .slice A1 n c1, .slice A2 m c2] 26 (0, 0))).cell? ⟨w1.heap.size, 0, none⟩ = some (.int .i64 lv) := by rw [cell_of_row _ _ _ _ _ _ HF3.out]; rfl
      have hc6 : (w1.alloc (.cells #[.int .i64 lv, .slice A1 n c1, .slice A2 m c2] 26 (0, 0))).cell? ⟨w1.heap.size, 1, none⟩ = some (.slice A1 n c1) := by rw [cell_of_row _ _ _ _ _ _ HF3.out]; rfl
      have hc7 : (w1.alloc (.cells #[.int .i64 lv, .slice A1 n c1, .slice A2 m c2] 26 (0, 0))).cell? ⟨w1.heap.size, 2, none⟩ = some (.slice A2 m c2) := by rw [cell_of_row _ _ _ _ _ _ HF3.out]; rfl
      go_wp2_with fail
      clear hc5 hc6 hc7
      have HK := Lib.hid (show ChR (w1.alloc (.cells #[.int .i64 lv, .slice A1 n c1, .slice A2 m c2] 26 (0, 0))) A1 A2 n m es cs from HR1.out.alloc _)
      refine (C2.out (w1.alloc (.cells #[.int .i64 lv, .slice A1 n c1, .slice A2 m c2] 26 (0, 0)))).mono ?_
      rintro e w2 ⟨vE, vC, rfl, hoe, hoc, hb2, hz2⟩
      obtain ⟨A3, c3, hv1, hr1, _, _⟩ := hoe.rd enC_len
      obtain ⟨A4, c4, hv2, hr2, _, _⟩ := hoc.rd inC_len
      rw [← HN.out] at hv1 hr1
      rw [← HM.out] at hv2 hr2
      subst hv1 hv2
      have HR2 := Lib.hid (show ChR w2 A3 A4 n m es cs from ⟨hr1, hr2⟩)
      clear hr1 hr2 hoe hoc
      have HF8 := Lib.hid (blk_below HF3.out (hb2.mono (Nat.le_refl _)))
      have HB9 := Lib.hid (HB4.out.trans (hb2.mono (by have := HB4.out.size; simp at this ⊢ <;> omega)))
      have HK2 := Lib.hid (show ChR w2 A1 A2 n m es cs from HK.out.below (hb2.mono (Nat.le_refl _)))
      clear hz2
      have hk10 : w1.heap.size < w2.heap.size := lt_of_block HF8.out
      have HF11 := Lib.hid (blk_alloc HF8.out (.cells #[.int .i64 lv, .slice A3 n c3, .slice A4 m c4] 26 (0, 0)))
      have HF12 := Lib.hid (blk_new w2 (.cells #[.int .i64 lv, .slice A3 n c3, .slice A4 m c4] 26 (0, 0)))
      have HB13 := Lib.hid (HB9.out.alloc HB9.out.size (.cells #[.int .i64 lv, .slice A3 n c3, .slice A4 m c4] 26 (0, 0)))
      clear HB9
      have hc14 : (w2.alloc (.cells #[.int .i64 lv, .slice A3 n c3, .slice A4 m c4] 26 (0, 0))).cell? ⟨w1.heap.size, 0, none⟩ = some (.int .i64 lv) := by rw [cell_of_row _ _ _ _ _ _ HF11.out]; rfl
      have hc15 : w2.cell? ⟨w1.heap.size, 0, none⟩ = some (.int .i64 lv) := by rw [cell_of_row _ _ _ _ _ _ HF8.out]; rfl
      have hc16 : (w2.alloc (.cells #[.int .i64 lv, .slice A3 n c3, .slice A4 m c4] 26 (0, 0))).cell? ⟨w1.heap.size, 1, none⟩ = some (.slice A1 n c1) := by rw [cell_of_row _ _ _ _ _ _ HF11.out]; rfl
      have hc17 : w2.cell? ⟨w1.heap.size, 1, none⟩ = some (.slice A1 n c1) := by rw [cell_of_row _ _ _ _ _ _ HF8.out]; rfl
      have hc18 : (w2.alloc (.cells #[.int .i64 lv, .slice A3 n c3, .slice A4 m c4] 26 (0, 0))).cell? ⟨w1.heap.size, 2, none⟩ = some (.slice A2 m c2) := by rw [cell_of_row _ _ _ _ _ _ HF11.out]; rfl
      have hc19 : w2.cell? ⟨w1.heap.size, 2, none⟩ = some (.slice A2 m c2) := by rw [cell_of_row _ _ _ _ _ _ HF8.out]; rfl
      have hl20 : w1.heap.size < w2.heap.size := lt_of_block HF8.out
      have hl21 : ¬ w1.heap.size = w2.heap.size := by omega
      have hc22 : (w2.alloc (.cells #[.int .i64 lv, .slice A3 n c3, .slice A4 m c4] 26 (0, 0))).cell? ⟨w2.heap.size, 0, none⟩ = some (.int .i64 lv) := by rw [cell_of_row _ _ _ _ _ _ HF12.out]; rfl
      have hc23 : (w2.alloc (.cells #[.int .i64 lv, .slice A3 n c3, .slice A4 m c4] 26 (0, 0))).cell? ⟨w2.heap.size, 1, none⟩ = some (.slice A3 n c3) := by rw [cell_of_row _ _ _ _ _ _ HF12.out]; rfl
      have hc24 : (w2.alloc (.cells #[.int .i64 lv, .slice A3 n c3, .slice A4 m c4] 26 (0, 0))).cell? ⟨w2.heap.size, 2, none⟩ = some (.slice A4 m c4) := by rw [cell_of_row _ _ _ _ _ _ HF12.out]; rfl
      go_wp2_with fail
      clear hc14 hc15 hc16 hc17 hc18 hc19 hl20 hl21 hc22 hc23 hc24
      refine (rsame19_yes lv A1 A2 A3 A4 n c1 m c2 c3 c4 es cs (w2.alloc (.cells #[.int .i64 lv, .slice A3 n c3, .slice A4 m c4] 26 (0, 0))) (HK2.out.alloc _) (HR2.out.alloc _) (by omega) (by omega)).mono ?_
      rintro e w3 ⟨rfl, hb3⟩
      have HF25 := Lib.hid (blk_below HF11.out hb3)
      have HF26 := Lib.hid (blk_below HF12.out hb3)
      have HB27 := Lib.hid (HB13.out.trans (hb3.mono HB13.out.size))
      clear hb3 HB13 HF11 HF8 HF12
      go_wp2_with fail
      refine (awake19 w3).mono ?_
      rintro e w4 ⟨rfl, hb4⟩
      have HF28 := Lib.hid (blk_below HF25.out hb4)
      have HF29 := Lib.hid (blk_below HF26.out hb4)
      have HB30 := Lib.hid (HB27.out.trans (hb4.mono HB27.out.size))
      clear hb4 HB27 HF25 HF26
      go_wp2_with fail
      go_ret
      exact ⟨rfl, HB30.out⟩
    · have hx : ∀ lv es cs, ¬ IsC S lv es cs := fun lv es cs k => hx ⟨lv, es, cs, k⟩
      have C1 := Lib.hid (fun W : World => (ctake_any S W (by omega)).mono (takeCN hx))
      have C2 := Lib.hid (fun W : World => (rtake19_any S W (by omega)).mono (takeCN hx))
      clear hx
      have HB1 := Lib.hid (Below.refl w.heap.size w)
      go_enter Try.func3, Try.ntmps3
      go_wp2_with fail
      refine (C1.out w).mono ?_
      rintro e w1 ⟨rfl, hb1⟩
      have HB2 := Lib.hid (HB1.out.trans (hb1.mono HB1.out.size))
      clear hb1 HB1 
      have HF3 := Lib.hid (blk_new w1 (.cells #[.int .i64 0, .slice none 0 0, .slice none 0 0] 26 (0, 0)))
      have HB4 := Lib.hid (HB2.out.alloc HB2.out.size (.cells #[.int .i64 0, .slice none 0 0, .slice none 0 0] 26 (0, 0)))
      clear HB2
      have hc5 : (w1.alloc (.cells #[.int .i64 0, .slice none 0 0, .slice none 0 0] 26 (0, 0))).cell? ⟨w1.heap.size, 0, none⟩ = some (.int .i64 0) := by rw [cell_of_row _ _ _ _ _ _ HF3.out]; rfl
      have hc6 : (w1.alloc (.cells #[.int .i64 0, .slice none 0 0, .slice none 0 0] 26 (0, 0))).cell? ⟨w1.heap.size, 1, none⟩ = some (.slice none 0 0) := by rw [cell_of_row _ _ _ _ _ _ HF3.out]; rfl
      have hc7 : (w1.alloc (.cells #[.int .i64 0, .slice none 0 0, .slice none 0 0] 26 (0, 0))).cell? ⟨w1.heap.size, 2, none⟩ = some (.slice none 0 0) := by rw [cell_of_row _ _ _ _ _ _ HF3.out]; rfl
      go_wp2_with fail
      clear hc5 hc6 hc7
      refine (C2.out (w1.alloc (.cells #[.int .i64 0, .slice none 0 0, .slice none 0 0] 26 (0, 0)))).mono ?_
      rintro e w2 ⟨rfl, hb2⟩
      have HF8 := Lib.hid (blk_below HF3.out hb2)
      have HB9 := Lib.hid (HB4.out.trans (hb2.mono HB4.out.size))
      clear hb2 HB4 HF3
      have hk10 : w1.heap.size < w2.heap.size := lt_of_block HF8.out
      have HF11 := Lib.hid (blk_alloc HF8.out (.cells #[.int .i64 0, .slice none 0 0, .slice none 0 0] 26 (0, 0)))
      have HF12 := Lib.hid (blk_new w2 (.cells #[.int .i64 0, .slice none 0 0, .slice none 0 0] 26 (0, 0)))
      have HB13 := Lib.hid (HB9.out.alloc HB9.out.size (.cells #[.int .i64 0, .slice none 0 0, .slice none 0 0] 26 (0, 0)))
      clear HB9
      have hc14 : (w2.alloc (.cells #[.int .i64 0, .slice none 0 0, .slice none 0 0] 26 (0, 0))).cell? ⟨w1.heap.size, 0, none⟩ = some (.int .i64 0) := by rw [cell_of_row _ _ _ _ _ _ HF11.out]; rfl
      have hc15 : w2.cell? ⟨w1.heap.size, 0, none⟩ = some (.int .i64 0) := by rw [cell_of_row _ _ _ _ _ _ HF8.out]; rfl
      have hc16 : (w2.alloc (.cells #[.int .i64 0, .slice none 0 0, .slice none 0 0] 26 (0, 0))).cell? ⟨w1.heap.size, 1, none⟩ = some (.slice none 0 0) := by rw [cell_of_row _ _ _ _ _ _ HF11.out]; rfl
      have hc17 : w2.cell? ⟨w1.heap.size, 1, none⟩ = some (.slice none 0 0) := by rw [cell_of_row _ _ _ _ _ _ HF8.out]; rfl
      have hc18 : (w2.alloc (.cells #[.int .i64 0, .slice none 0 0, .slice none 0 0] 26 (0, 0))).cell? ⟨w1.heap.size, 2, none⟩ = some (.slice none 0 0) := by rw [cell_of_row _ _ _ _ _ _ HF11.out]; rfl
      have hc19 : w2.cell? ⟨w1.heap.size, 2, none⟩ = some (.slice none 0 0) := by rw [cell_of_row _ _ _ _ _ _ HF8.out]; rfl
      have hl20 : w1.heap.size < w2.heap.size := lt_of_block HF8.out
      have hl21 : ¬ w1.heap.size = w2.heap.size := by omega
      have hc22 : (w2.alloc (.cells #[.int .i64 0, .slice none 0 0, .slice none 0 0] 26 (0, 0))).cell? ⟨w2.heap.size, 0, none⟩ = some (.int .i64 0) := by rw [cell_of_row _ _ _ _ _ _ HF12.out]; rfl
      have hc23 : (w2.alloc (.cells #[.int .i64 0, .slice none 0 0, .slice none 0 0] 26 (0, 0))).cell? ⟨w2.heap.size, 1, none⟩ = some (.slice none 0 0) := by rw [cell_of_row _ _ _ _ _ _ HF12.out]; rfl
      have hc24 : (w2.alloc (.cells #[.int .i64 0, .slice none 0 0, .slice none 0 0] 26 (0, 0))).cell? ⟨w2.heap.size, 2, none⟩ = some (.slice none 0 0) := by rw [cell_of_row _ _ _ _ _ _ HF12.out]; rfl
      go_wp2_with fail
      clear hc14 hc15 hc16 hc17 hc18 hc19 hl20 hl21 hc22 hc23 hc24
      refine (rsame19_yes 0 none none none none 0 0 0 0 0 0 [] [] (w2.alloc (.cells #[.int .i64 0, .slice none 0 0, .slice none 0 0] 26 (0, 0))) ⟨RdX.nil, RdX.nil⟩ ⟨RdX.nil, RdX.nil⟩ (by omega) (by omega)).mono ?_
      rintro e w3 ⟨rfl, hb3⟩
      have HF25 := Lib.hid (blk_below HF11.out hb3)
      have HF26 := Lib.hid (blk_below HF12.out hb3)
      have HB27 := Lib.hid (HB13.out.trans (hb3.mono HB13.out.size))
      clear hb3 HB13 HF11 HF8 HF12
      go_wp2_with fail
      refine (awake19 w3).mono ?_
      rintro e w4 ⟨rfl, hb4⟩
      have HF28 := Lib.hid (blk_below HF25.out hb4)
      have HF29 := Lib.hid (blk_below HF26.out hb4)
      have HB30 := Lib.hid (HB27.out.trans (hb4.mono HB27.out.size))
      clear hb4 HB27 HF25 HF26
      go_wp2_with fail
      go_ret
      exact ⟨rfl, HB30.out⟩
end Go.Proofs.Ytdjjabjegmbmaaa.LChunkTakes
