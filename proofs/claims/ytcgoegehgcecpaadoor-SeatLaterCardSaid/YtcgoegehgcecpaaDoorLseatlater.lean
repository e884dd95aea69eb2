/- SeatLater: the later head counts, whatever older one, or none, stands in its slot. Condition: the table of crc. -/
import Derived.Test.YtcgoegehgcecpaaDoorRows
import Derived.Test.YtcgoegehgcecpaaDoorLseatputs
namespace Go.Proofs.YtcgoegehgcecpaaDoor.LSeatLater
open Go.RowKit Vi Cm

theorem nx_zero {a b c d p n : Int} (h : nxE a b c d p n = 0) : hok a b c d = true ∧ a ≠ 4294967295 ∧ hok (a + 1) (1 - b) p n = true ∧ nxV a b c d p n = .tuple #[.agg #[.int .i64 (a + 1), .int .i64 (1 - b), .int .i64 p, .int .i64 n], .int .i64 0] := by
  have h0 := h
  unfold nxE at h
  split at h
  · rename_i h1
    split at h
    · exact absurd h (by decide)
    · rename_i h2
      split at h
      · rename_i h3
        exact ⟨h1, h2, h3, nx_ok h1 h2 h3⟩
      · exact absurd h (by decide)
  · exact absurd h (by decide)
theorem nx_other {a b c d p n : Int} : ∃ x y z u : Int, nxV a b c d p n = .tuple #[.agg #[.int .i64 x, .int .i64 y, .int .i64 z, .int .i64 u], .int .i64 (nxE a b c d p n)] := by
  unfold nxV nxH
  split
  · exact ⟨_, _, _, _, rfl⟩
  · exact ⟨_, _, _, _, rfl⟩
theorem slotB (n : Int) (w : World) : Calls Tryd.prog 42 #[.int .i64 n] w fun e w' => e = .returned (.int .i64 (n % 2)) ∧ Below w.heap.size w w' := (slot_any n w).mono fun _ _ h => ⟨h.1, by rw [← h.2]; exact Below.refl _ _⟩
theorem ch_of {S1 S2 : ByteArray} {a b c d e1 a2 b2 c2 d2 e2 p q r s : Int} (h1 : TkF S1 a b c d e1) (h2 : TkF S2 a2 b2 c2 d2 e2) (h : bst (a, b, c, d) (a2, b2, c2, d2) 2 = (p, q, r, s)) (hp : 0 < p) (W : World) (hT : Tab W) :
    Calls Tryd.prog 38 #[.string S1, .string S2] W fun e w' => e = .returned (.tuple #[.agg #[.int .i64 p, .int .i64 q, .int .i64 r, .int .i64 s], .bool true]) ∧ Below W.heap.size W w' := by
  have k := choose_any S1 S2 _ _ _ _ _ _ _ _ _ _ h1 h2 W hT
  rw [h] at k
  rw [show chB (p, q, r, s) = true by unfold chB; exact decide_eq_true hp] at k
  exact k
set_option maxHeartbeats 8000000 in
set_option maxRecDepth 100000 in
theorem walk_few (a b c d p n : Int) (S : ByteArray) (came : Bool) (w : World) (hT : Tab w) (hS : S.size ≤ 1000) (hn : nxE a b c d p n = 0) :
    Calls Tryd.prog 9 #[.agg #[.int .i64 a, .int .i64 b, .int .i64 c, .int .i64 d], .int .i64 p, .int .i64 n, .string S, .bool came] w fun e w' => e = .returned (.bool true) ∧ Below w.heap.size w w' := by
  have HT := Lib.hid hT
  have HA := Lib.hid (fun (W : World) (h : Tab W) => awake08 W h)
  have hd1 : decide ((1000 : Int) < (S.size : Int)) = false := decide_eq_false (by omega)
  obtain ⟨k1, k2, k3, k4⟩ := nx_zero hn
  have HN := Lib.hid (fun W : World => next_any a b c d p n W)
  rw [k4] at HN
  have b1 := hok_bd k1
  have b2 := hok_bd k3
  have HP1 := Lib.hid (fun (W : World) (h : Tab W) => hput_yes a b c d W h k1 (by omega) (by omega) (by omega) (by omega))
  have HP2 := Lib.hid (fun (W : World) (h : Tab W) => hput_yes (a + 1) (1 - b) p n W h k3 (by omega) (by omega) (by omega) (by omega))
  have F1 := tkF_yes a b c d k1
  have F2 := tkF_yes (a + 1) (1 - b) p n k3
  have HS1 := Lib.hid (fun W : World => slotB a W)
  have HS2 := Lib.hid (fun W : World => slotB (a + 1) W)
  obtain ⟨a2, b2', c2, d2, e2, F3⟩ := tkF_any S hS
  have HTK := Lib.hid F3.prog
  have b3 := F3.bd
  generalize hs1 : headS a b c d = D1 at HP1 F1
  generalize hs2 : headS (a + 1) (1 - b) p n = D2 at HP2 F2
  have p0 : 1 ≤ a := by omega
  have p1 : a ≤ 4294967294 := by omega
  have p2 : 0 < a := by omega
  obtain ⟨a', ha'⟩ : ∃ a', a' = a + 1 := ⟨_, rfl⟩
  rw [← ha'] at HN HP2 F2 HS2
  generalize 1 - b = bb at HN HP2 F2
  have hcase : (a % 2 = 0 ∧ a' % 2 = 1) ∨ (a % 2 = 1 ∧ a' % 2 = 0) := by omega
  clear hs1 hs2 k1 k2 k3 k4 b1 b2 hT hS hn
  rcases hcase with ⟨m1, m2⟩ | ⟨m1, m2⟩
  · cases came with
    | true =>
      have hb1 : bst (a, b, c, d) (a', bb, p, n) 1 = (a, b, c, d) := bst_x _ m1 p2
      have HC := Lib.hid (fun (W : World) (h : Tab W) => ch_of F1 F2 (bst_y (x := (a, b, c, d)) m2 (by rw [hb1]; dsimp only; omega)) (by omega) W h)
      rw [show a % 2 = 0 from m1] at HS1
      rw [show a' % 2 = 1 from m2] at HS2
      have q1 : (a' == a) = false := by simp; omega
      have q2 : (a == a') = false := by simp; omega
      have HAA := Lib.hid ha'
      have n1 : 0 ≤ a' := by omega
      have n2 : a' ≤ 4294967295 := by omega
      clear F1 F2 F3 hb1 m1 m2 ha' b3
      have HB1 := Lib.hid (Below.refl w.heap.size w)
      go_enter Tryd.func9, Tryd.ntmps9
      go_wp2_with fail
      have HF2 := Lib.hid (blk_new w (.cells #[.int .i64 a, .int .i64 b, .int .i64 c, .int .i64 d] 48 (0, 0)))
      have HB3 := Lib.hid (HB1.out.alloc HB1.out.size (.cells #[.int .i64 a, .int .i64 b, .int .i64 c, .int .i64 d] 48 (0, 0)))
      clear HB1
      refine (HN.out (w.alloc (.cells #[.int .i64 a, .int .i64 b, .int .i64 c, .int .i64 d] 48 (0, 0)))).mono ?_
      rintro e w1 ⟨rfl, hb1⟩
      have HF4 := Lib.hid (blk_below HF2.out hb1)
      have HB5 := Lib.hid (HB3.out.trans (hb1.mono HB3.out.size))
      clear hb1 HB3 HF2
      have HF6 := Lib.hid (blk_alloc HF4.out (.cells #[.int .i64 a', .int .i64 bb, .int .i64 p, .int .i64 n] 48 (0, 0)))
      have HF7 := Lib.hid (blk_new w1 (.cells #[.int .i64 a', .int .i64 bb, .int .i64 p, .int .i64 n] 48 (0, 0)))
      have HB8 := Lib.hid (HB5.out.alloc HB5.out.size (.cells #[.int .i64 a', .int .i64 bb, .int .i64 p, .int .i64 n] 48 (0, 0)))
      clear HB5
      have hc9 : (w1.alloc (.cells #[.int .i64 a', .int .i64 bb, .int .i64 p, .int .i64 n] 48 (0, 0))).cell? ⟨w.heap.size, 0, none⟩ = some (.int .i64 a) := by rw [cell_of_row _ _ _ _ _ _ HF6.out]; rfl
      have hc10 : w1.cell? ⟨w.heap.size, 0, none⟩ = some (.int .i64 a) := by rw [cell_of_row _ _ _ _ _ _ HF4.out]; rfl
      have hc11 : (w1.alloc (.cells #[.int .i64 a', .int .i64 bb, .int .i64 p, .int .i64 n] 48 (0, 0))).cell? ⟨w.heap.size, 1, none⟩ = some (.int .i64 b) := by rw [cell_of_row _ _ _ _ _ _ HF6.out]; rfl
      have hc12 : w1.cell? ⟨w.heap.size, 1, none⟩ = some (.int .i64 b) := by rw [cell_of_row _ _ _ _ _ _ HF4.out]; rfl
      have hc13 : (w1.alloc (.cells #[.int .i64 a', .int .i64 bb, .int .i64 p, .int .i64 n] 48 (0, 0))).cell? ⟨w.heap.size, 2, none⟩ = some (.int .i64 c) := by rw [cell_of_row _ _ _ _ _ _ HF6.out]; rfl
      have hc14 : w1.cell? ⟨w.heap.size, 2, none⟩ = some (.int .i64 c) := by rw [cell_of_row _ _ _ _ _ _ HF4.out]; rfl
      have hc15 : (w1.alloc (.cells #[.int .i64 a', .int .i64 bb, .int .i64 p, .int .i64 n] 48 (0, 0))).cell? ⟨w.heap.size, 3, none⟩ = some (.int .i64 d) := by rw [cell_of_row _ _ _ _ _ _ HF6.out]; rfl
      have hc16 : w1.cell? ⟨w.heap.size, 3, none⟩ = some (.int .i64 d) := by rw [cell_of_row _ _ _ _ _ _ HF4.out]; rfl
      have hl17 : w.heap.size < w1.heap.size := lt_of_block HF4.out
      have hl18 : ¬ w.heap.size = w1.heap.size := by omega
      go_wp2_with fail
      refine (HP1.out (w1.alloc (.cells #[.int .i64 a', .int .i64 bb, .int .i64 p, .int .i64 n] 48 (0, 0))) (HT.out.later HB8.out)).mono ?_
      rintro e w2 ⟨rfl, hb2⟩
      clear hc9 hc10 hc11 hc12 hc13 hc14 hc15 hc16 hl17 hl18
      have HF19 := Lib.hid (blk_below HF6.out hb2)
      have HF20 := Lib.hid (blk_below HF7.out hb2)
      have HB21 := Lib.hid (HB8.out.trans (hb2.mono HB8.out.size))
      clear hb2 HB8 HF6 HF4 HF7
      have hc22 : w2.cell? ⟨w1.heap.size, 0, none⟩ = some (.int .i64 a') := by rw [cell_of_row _ _ _ _ _ _ HF20.out]; rfl
      have hc23 : w2.cell? ⟨w1.heap.size, 1, none⟩ = some (.int .i64 bb) := by rw [cell_of_row _ _ _ _ _ _ HF20.out]; rfl
      have hc24 : w2.cell? ⟨w1.heap.size, 2, none⟩ = some (.int .i64 p) := by rw [cell_of_row _ _ _ _ _ _ HF20.out]; rfl
      have hc25 : w2.cell? ⟨w1.heap.size, 3, none⟩ = some (.int .i64 n) := by rw [cell_of_row _ _ _ _ _ _ HF20.out]; rfl
      go_wp2_with fail
      refine (HP2.out w2 (HT.out.later HB21.out)).mono ?_
      rintro e w3 ⟨rfl, hb3⟩
      clear hc22 hc23 hc24 hc25
      have HF26 := Lib.hid (blk_below HF19.out hb3)
      have HF27 := Lib.hid (blk_below HF20.out hb3)
      have HB28 := Lib.hid (HB21.out.trans (hb3.mono HB21.out.size))
      clear hb3 HB21 HF19 HF20
      have hc29 : w3.cell? ⟨w.heap.size, 0, none⟩ = some (.int .i64 a) := by rw [cell_of_row _ _ _ _ _ _ HF26.out]; rfl
      have hc30 : w3.cell? ⟨w1.heap.size, 0, none⟩ = some (.int .i64 a') := by rw [cell_of_row _ _ _ _ _ _ HF27.out]; rfl
      go_wp2_with fail
      have hr31 := fun d os => cell_regrown hc29 d os
      have hr32 := fun d os => cell_regrown hc30 d os
      refine wp_region_quiet_below (by kernel_rfl) (by kernel_rfl) ?_
      repeat (any_goals (first | go_big_quiet_step ((go_at_call 42; first | exact Calls.regrown_of (HS1.out _) | exact Calls.regrown_of (HS2.out _))) | quiet_step ((go_at_call 42; first | exact Calls.regrown_of (HS1.out _) | exact Calls.regrown_of (HS2.out _)))))
      refine wpQuiet_nil ?_
      intro w4 hw4
      have hb4 := below_anyY hw4
      clear hw4 hr31 hr32
      clear hc29 hc30
      have HF33 := Lib.hid (blk_below HF26.out hb4)
      have HF34 := Lib.hid (blk_below HF27.out hb4)
      have HB35 := Lib.hid (HB28.out.trans (hb4.mono HB28.out.size))
      clear hb4 HB28 HF26 HF27
      have hk36 : w.heap.size < w4.heap.size := lt_of_block HF33.out
      have hk37 : w1.heap.size < w4.heap.size := lt_of_block HF34.out
      have HF38 := Lib.hid (blk_alloc HF33.out (.cells #[.string D2, .string D2] 68 (0, 0)))
      have HF39 := Lib.hid (blk_alloc HF34.out (.cells #[.string D2, .string D2] 68 (0, 0)))
      have HF40 := Lib.hid (blk_new w4 (.cells #[.string D2, .string D2] 68 (0, 0)))
      have HB41 := Lib.hid (HB35.out.alloc HB35.out.size (.cells #[.string D2, .string D2] 68 (0, 0)))
      clear HB35
      have hc42 : (w4.alloc (.cells #[.string D2, .string D2] 68 (0, 0))).cell? ⟨w.heap.size, 0, none⟩ = some (.int .i64 a) := by rw [cell_of_row _ _ _ _ _ _ HF38.out]; rfl
      have hc43 : w4.cell? ⟨w.heap.size, 0, none⟩ = some (.int .i64 a) := by rw [cell_of_row _ _ _ _ _ _ HF33.out]; rfl
      have hl44 : w.heap.size < w4.heap.size := lt_of_block HF33.out
      have hl45 : ¬ w.heap.size = w4.heap.size := by omega
      go_wp2_with fail
      refine (HS1.out (w4.alloc (.cells #[.string D2, .string D2] 68 (0, 0)))).mono ?_
      rintro e w5 ⟨rfl, hb5⟩
      clear hc42 hc43 hl44 hl45
      have HF46 := Lib.hid (blk_below HF38.out hb5)
      have HF47 := Lib.hid (blk_below HF39.out hb5)
      have HF48 := Lib.hid (blk_below HF40.out hb5)
      have HB49 := Lib.hid (HB41.out.trans (hb5.mono HB41.out.size))
      clear hb5 HB41 HF38 HF33 HF39 HF34 HF40
      have hc50 : w5.cell? ⟨w4.heap.size, 0, none⟩ = some (.string D2) := by rw [cell_of_row _ _ _ _ _ _ HF48.out]; rfl
      have hc51 : w5.cell? ⟨w4.heap.size, 1, none⟩ = some (.string D2) := by rw [cell_of_row _ _ _ _ _ _ HF48.out]; rfl
      have hz52 : w5.frozen? ⟨w4.heap.size, 0, none⟩ = false := frozen_of_row _ _ _ _ _ HF48.out
      have HF53 := Lib.hid (show (w5.setCell ⟨w4.heap.size, 0, none⟩ (.string D1)).heap[w.heap.size]? = some (.cells #[.int .i64 a, .int .i64 b, .int .i64 c, .int .i64 d] 48 (0, 0)) by rw [Below.heap_setCell _ _ _ _ (by show w.heap.size ≠ w4.heap.size; omega)]; exact HF46.out)
      have HF54 := Lib.hid (show (w5.setCell ⟨w4.heap.size, 0, none⟩ (.string D1)).heap[w1.heap.size]? = some (.cells #[.int .i64 a', .int .i64 bb, .int .i64 p, .int .i64 n] 48 (0, 0)) by rw [Below.heap_setCell _ _ _ _ (by show w1.heap.size ≠ w4.heap.size; omega)]; exact HF47.out)
      have HF55 := Lib.hid (show (w5.setCell ⟨w4.heap.size, 0, none⟩ (.string D1)).heap[w4.heap.size]? = some (.cells #[.string D1, .string D2] 68 (0, 0)) by have h := heap_setCell_at (i := 0) (u := .string D1) HF48.out; exact h)
      have HB56 := Lib.hid (HB49.out.setCell (p := ⟨w4.heap.size, 0, none⟩) (by show w.heap.size ≤ w4.heap.size; omega) (.string D1))
      go_wp2_with fail
      refine (HC.out (w5.setCell ⟨w4.heap.size, 0, none⟩ (.string D1)) (HT.out.later HB56.out)).mono ?_
      rintro e w6 ⟨rfl, hb6⟩
      clear hc50 hc51 hz52
      have HF57 := Lib.hid (blk_below HF53.out hb6)
      have HF58 := Lib.hid (blk_below HF54.out hb6)
      have HF59 := Lib.hid (blk_below HF55.out hb6)
      have HB60 := Lib.hid (HB56.out.trans (hb6.mono HB56.out.size))
      clear hb6 HB56 HF53 HF54 HF55
      have hk61 : w.heap.size < w6.heap.size := lt_of_block HF57.out
      have hk62 : w1.heap.size < w6.heap.size := lt_of_block HF58.out
      have hk63 : w4.heap.size < w6.heap.size := lt_of_block HF59.out
      have HF64 := Lib.hid (blk_alloc HF57.out (.cells #[.int .i64 a', .int .i64 bb, .int .i64 p, .int .i64 n] 48 (0, 0)))
      have HF65 := Lib.hid (blk_alloc HF58.out (.cells #[.int .i64 a', .int .i64 bb, .int .i64 p, .int .i64 n] 48 (0, 0)))
      have HF66 := Lib.hid (blk_alloc HF59.out (.cells #[.int .i64 a', .int .i64 bb, .int .i64 p, .int .i64 n] 48 (0, 0)))
      have HF67 := Lib.hid (blk_new w6 (.cells #[.int .i64 a', .int .i64 bb, .int .i64 p, .int .i64 n] 48 (0, 0)))
      have HB68 := Lib.hid (HB60.out.alloc HB60.out.size (.cells #[.int .i64 a', .int .i64 bb, .int .i64 p, .int .i64 n] 48 (0, 0)))
      clear HB60
      have hc69 : (w6.alloc (.cells #[.int .i64 a', .int .i64 bb, .int .i64 p, .int .i64 n] 48 (0, 0))).cell? ⟨w1.heap.size, 0, none⟩ = some (.int .i64 a') := by rw [cell_of_row _ _ _ _ _ _ HF65.out]; rfl
      have hc70 : w6.cell? ⟨w1.heap.size, 0, none⟩ = some (.int .i64 a') := by rw [cell_of_row _ _ _ _ _ _ HF58.out]; rfl
      have hc71 : (w6.alloc (.cells #[.int .i64 a', .int .i64 bb, .int .i64 p, .int .i64 n] 48 (0, 0))).cell? ⟨w1.heap.size, 1, none⟩ = some (.int .i64 bb) := by rw [cell_of_row _ _ _ _ _ _ HF65.out]; rfl
      have hc72 : w6.cell? ⟨w1.heap.size, 1, none⟩ = some (.int .i64 bb) := by rw [cell_of_row _ _ _ _ _ _ HF58.out]; rfl
      have hc73 : (w6.alloc (.cells #[.int .i64 a', .int .i64 bb, .int .i64 p, .int .i64 n] 48 (0, 0))).cell? ⟨w1.heap.size, 2, none⟩ = some (.int .i64 p) := by rw [cell_of_row _ _ _ _ _ _ HF65.out]; rfl
      have hc74 : w6.cell? ⟨w1.heap.size, 2, none⟩ = some (.int .i64 p) := by rw [cell_of_row _ _ _ _ _ _ HF58.out]; rfl
      have hc75 : (w6.alloc (.cells #[.int .i64 a', .int .i64 bb, .int .i64 p, .int .i64 n] 48 (0, 0))).cell? ⟨w1.heap.size, 3, none⟩ = some (.int .i64 n) := by rw [cell_of_row _ _ _ _ _ _ HF65.out]; rfl
      have hc76 : w6.cell? ⟨w1.heap.size, 3, none⟩ = some (.int .i64 n) := by rw [cell_of_row _ _ _ _ _ _ HF58.out]; rfl
      have hl77 : w1.heap.size < w6.heap.size := lt_of_block HF58.out
      have hl78 : ¬ w1.heap.size = w6.heap.size := by omega
      have hc79 : (w6.alloc (.cells #[.int .i64 a', .int .i64 bb, .int .i64 p, .int .i64 n] 48 (0, 0))).cell? ⟨w.heap.size, 0, none⟩ = some (.int .i64 a) := by rw [cell_of_row _ _ _ _ _ _ HF64.out]; rfl
      have hc80 : w6.cell? ⟨w.heap.size, 0, none⟩ = some (.int .i64 a) := by rw [cell_of_row _ _ _ _ _ _ HF57.out]; rfl
      have hc81 : (w6.alloc (.cells #[.int .i64 a', .int .i64 bb, .int .i64 p, .int .i64 n] 48 (0, 0))).cell? ⟨w.heap.size, 1, none⟩ = some (.int .i64 b) := by rw [cell_of_row _ _ _ _ _ _ HF64.out]; rfl
      have hc82 : w6.cell? ⟨w.heap.size, 1, none⟩ = some (.int .i64 b) := by rw [cell_of_row _ _ _ _ _ _ HF57.out]; rfl
      have hc83 : (w6.alloc (.cells #[.int .i64 a', .int .i64 bb, .int .i64 p, .int .i64 n] 48 (0, 0))).cell? ⟨w.heap.size, 2, none⟩ = some (.int .i64 c) := by rw [cell_of_row _ _ _ _ _ _ HF64.out]; rfl
      have hc84 : w6.cell? ⟨w.heap.size, 2, none⟩ = some (.int .i64 c) := by rw [cell_of_row _ _ _ _ _ _ HF57.out]; rfl
      have hc85 : (w6.alloc (.cells #[.int .i64 a', .int .i64 bb, .int .i64 p, .int .i64 n] 48 (0, 0))).cell? ⟨w.heap.size, 3, none⟩ = some (.int .i64 d) := by rw [cell_of_row _ _ _ _ _ _ HF64.out]; rfl
      have hc86 : w6.cell? ⟨w.heap.size, 3, none⟩ = some (.int .i64 d) := by rw [cell_of_row _ _ _ _ _ _ HF57.out]; rfl
      have hl87 : w.heap.size < w6.heap.size := lt_of_block HF57.out
      have hl88 : ¬ w.heap.size = w6.heap.size := by omega
      go_wp2_with fail
      refine (HA.out (w6.alloc (.cells #[.int .i64 a', .int .i64 bb, .int .i64 p, .int .i64 n] 48 (0, 0))) (HT.out.later HB68.out)).mono ?_
      rintro e w7 ⟨rfl, hb7⟩
      clear hc69 hc70 hc71 hc72 hc73 hc74 hc75 hc76 hl77 hl78 hc79 hc80 hc81 hc82 hc83 hc84 hc85 hc86 hl87 hl88
      have HF89 := Lib.hid (blk_below HF64.out hb7)
      have HF90 := Lib.hid (blk_below HF65.out hb7)
      have HF91 := Lib.hid (blk_below HF66.out hb7)
      have HF92 := Lib.hid (blk_below HF67.out hb7)
      have HB93 := Lib.hid (HB68.out.trans (hb7.mono HB68.out.size))
      clear hb7 HB68 HF64 HF57 HF65 HF58 HF66 HF59 HF67
      go_wp2_with fail
      go_ret
      exact ⟨rfl, HB93.out⟩
    | false =>
      rcases b3 with ⟨rfl, rfl, rfl, rfl, rfl⟩ | ⟨y1, y2, rfl⟩
      · have b3 := True.intro
        have hb1 : bst (a, b, c, d) (0, 0, 0, 0) 1 = (a, b, c, d) := bst_x _ m1 p2
        have HC := Lib.hid (fun (W : World) (h : Tab W) => ch_of F1 F3 ((bst_k (x := (a, b, c, d)) (by intro g; have := g.1; omega)).trans hb1) (by omega) W h)
        rw [show a % 2 = 0 from m1] at HS1
        rw [show a' % 2 = 1 from m2] at HS2
        have q1 : (a' == a) = false := by simp; omega
        have q2 : (a == a') = false := by simp; omega
        have HAA := Lib.hid ha'
        have n1 : 0 ≤ a' := by omega
        have n2 : a' ≤ 4294967295 := by omega
        clear F1 F2 F3 hb1 m1 m2 ha' b3
        have HB1 := Lib.hid (Below.refl w.heap.size w)
        go_enter Tryd.func9, Tryd.ntmps9
        go_wp2_with fail
        have HF2 := Lib.hid (blk_new w (.cells #[.int .i64 a, .int .i64 b, .int .i64 c, .int .i64 d] 48 (0, 0)))
        have HB3 := Lib.hid (HB1.out.alloc HB1.out.size (.cells #[.int .i64 a, .int .i64 b, .int .i64 c, .int .i64 d] 48 (0, 0)))
        clear HB1
        refine (HN.out (w.alloc (.cells #[.int .i64 a, .int .i64 b, .int .i64 c, .int .i64 d] 48 (0, 0)))).mono ?_
        rintro e w1 ⟨rfl, hb1⟩
        have HF4 := Lib.hid (blk_below HF2.out hb1)
        have HB5 := Lib.hid (HB3.out.trans (hb1.mono HB3.out.size))
        clear hb1 HB3 HF2
        have HF6 := Lib.hid (blk_alloc HF4.out (.cells #[.int .i64 a', .int .i64 bb, .int .i64 p, .int .i64 n] 48 (0, 0)))
        have HF7 := Lib.hid (blk_new w1 (.cells #[.int .i64 a', .int .i64 bb, .int .i64 p, .int .i64 n] 48 (0, 0)))
        have HB8 := Lib.hid (HB5.out.alloc HB5.out.size (.cells #[.int .i64 a', .int .i64 bb, .int .i64 p, .int .i64 n] 48 (0, 0)))
        clear HB5
        have hc9 : (w1.alloc (.cells #[.int .i64 a', .int .i64 bb, .int .i64 p, .int .i64 n] 48 (0, 0))).cell? ⟨w.heap.size, 0, none⟩ = some (.int .i64 a) := by rw [cell_of_row _ _ _ _ _ _ HF6.out]; rfl
        have hc10 : w1.cell? ⟨w.heap.size, 0, none⟩ = some (.int .i64 a) := by rw [cell_of_row _ _ _ _ _ _ HF4.out]; rfl
        have hc11 : (w1.alloc (.cells #[.int .i64 a', .int .i64 bb, .int .i64 p, .int .i64 n] 48 (0, 0))).cell? ⟨w.heap.size, 1, none⟩ = some (.int .i64 b) := by rw [cell_of_row _ _ _ _ _ _ HF6.out]; rfl
        have hc12 : w1.cell? ⟨w.heap.size, 1, none⟩ = some (.int .i64 b) := by rw [cell_of_row _ _ _ _ _ _ HF4.out]; rfl
        have hc13 : (w1.alloc (.cells #[.int .i64 a', .int .i64 bb, .int .i64 p, .int .i64 n] 48 (0, 0))).cell? ⟨w.heap.size, 2, none⟩ = some (.int .i64 c) := by rw [cell_of_row _ _ _ _ _ _ HF6.out]; rfl
        have hc14 : w1.cell? ⟨w.heap.size, 2, none⟩ = some (.int .i64 c) := by rw [cell_of_row _ _ _ _ _ _ HF4.out]; rfl
        have hc15 : (w1.alloc (.cells #[.int .i64 a', .int .i64 bb, .int .i64 p, .int .i64 n] 48 (0, 0))).cell? ⟨w.heap.size, 3, none⟩ = some (.int .i64 d) := by rw [cell_of_row _ _ _ _ _ _ HF6.out]; rfl
        have hc16 : w1.cell? ⟨w.heap.size, 3, none⟩ = some (.int .i64 d) := by rw [cell_of_row _ _ _ _ _ _ HF4.out]; rfl
        have hl17 : w.heap.size < w1.heap.size := lt_of_block HF4.out
        have hl18 : ¬ w.heap.size = w1.heap.size := by omega
        go_wp2_with fail
        refine (HP1.out (w1.alloc (.cells #[.int .i64 a', .int .i64 bb, .int .i64 p, .int .i64 n] 48 (0, 0))) (HT.out.later HB8.out)).mono ?_
        rintro e w2 ⟨rfl, hb2⟩
        clear hc9 hc10 hc11 hc12 hc13 hc14 hc15 hc16 hl17 hl18
        have HF19 := Lib.hid (blk_below HF6.out hb2)
        have HF20 := Lib.hid (blk_below HF7.out hb2)
        have HB21 := Lib.hid (HB8.out.trans (hb2.mono HB8.out.size))
        clear hb2 HB8 HF6 HF4 HF7
        have hc22 : w2.cell? ⟨w1.heap.size, 0, none⟩ = some (.int .i64 a') := by rw [cell_of_row _ _ _ _ _ _ HF20.out]; rfl
        have hc23 : w2.cell? ⟨w1.heap.size, 1, none⟩ = some (.int .i64 bb) := by rw [cell_of_row _ _ _ _ _ _ HF20.out]; rfl
        have hc24 : w2.cell? ⟨w1.heap.size, 2, none⟩ = some (.int .i64 p) := by rw [cell_of_row _ _ _ _ _ _ HF20.out]; rfl
        have hc25 : w2.cell? ⟨w1.heap.size, 3, none⟩ = some (.int .i64 n) := by rw [cell_of_row _ _ _ _ _ _ HF20.out]; rfl
        go_wp2_with fail
        refine (HP2.out w2 (HT.out.later HB21.out)).mono ?_
        rintro e w3 ⟨rfl, hb3⟩
        clear hc22 hc23 hc24 hc25
        have HF26 := Lib.hid (blk_below HF19.out hb3)
        have HF27 := Lib.hid (blk_below HF20.out hb3)
        have HB28 := Lib.hid (HB21.out.trans (hb3.mono HB21.out.size))
        clear hb3 HB21 HF19 HF20
        have hc29 : w3.cell? ⟨w.heap.size, 0, none⟩ = some (.int .i64 a) := by rw [cell_of_row _ _ _ _ _ _ HF26.out]; rfl
        have hc30 : w3.cell? ⟨w1.heap.size, 0, none⟩ = some (.int .i64 a') := by rw [cell_of_row _ _ _ _ _ _ HF27.out]; rfl
        go_wp2_with fail
        have hr31 := fun d os => cell_regrown hc29 d os
        have hr32 := fun d os => cell_regrown hc30 d os
        refine wp_region_quiet_below (by kernel_rfl) (by kernel_rfl) ?_
        repeat (any_goals (first | go_big_quiet_step ((go_at_call 42; first | exact Calls.regrown_of (HS1.out _) | exact Calls.regrown_of (HS2.out _))) | quiet_step ((go_at_call 42; first | exact Calls.regrown_of (HS1.out _) | exact Calls.regrown_of (HS2.out _)))))
        refine wpQuiet_nil ?_
        intro w4 hw4
        have hb4 := below_anyY hw4
        clear hw4 hr31 hr32
        clear hc29 hc30
        have HF33 := Lib.hid (blk_below HF26.out hb4)
        have HF34 := Lib.hid (blk_below HF27.out hb4)
        have HB35 := Lib.hid (HB28.out.trans (hb4.mono HB28.out.size))
        clear hb4 HB28 HF26 HF27
        go_wp2_with fail
        refine (HTK.out w4 (HT.out.later HB35.out)).mono ?_
        rintro e w5 ⟨rfl, hb5⟩
        have HF36 := Lib.hid (blk_below HF33.out hb5)
        have HF37 := Lib.hid (blk_below HF34.out hb5)
        have HB38 := Lib.hid (HB35.out.trans (hb5.mono HB35.out.size))
        clear hb5 HB35 HF33 HF34
        have hk39 : w.heap.size < w5.heap.size := lt_of_block HF36.out
        have hk40 : w1.heap.size < w5.heap.size := lt_of_block HF37.out
        have HF41 := Lib.hid (blk_alloc HF36.out (.cells #[.int .i64 0, .int .i64 0, .int .i64 0, .int .i64 0] 48 (0, 0)))
        have HF42 := Lib.hid (blk_alloc HF37.out (.cells #[.int .i64 0, .int .i64 0, .int .i64 0, .int .i64 0] 48 (0, 0)))
        have HF43 := Lib.hid (blk_new w5 (.cells #[.int .i64 0, .int .i64 0, .int .i64 0, .int .i64 0] 48 (0, 0)))
        have HB44 := Lib.hid (HB38.out.alloc HB38.out.size (.cells #[.int .i64 0, .int .i64 0, .int .i64 0, .int .i64 0] 48 (0, 0)))
        clear HB38
        have hc45 : (w5.alloc (.cells #[.int .i64 0, .int .i64 0, .int .i64 0, .int .i64 0] 48 (0, 0))).cell? ⟨w.heap.size, 0, none⟩ = some (.int .i64 a) := by rw [cell_of_row _ _ _ _ _ _ HF41.out]; rfl
        have hc46 : w5.cell? ⟨w.heap.size, 0, none⟩ = some (.int .i64 a) := by rw [cell_of_row _ _ _ _ _ _ HF36.out]; rfl
        have hl47 : w.heap.size < w5.heap.size := lt_of_block HF36.out
        have hl48 : ¬ w.heap.size = w5.heap.size := by omega
        have HF49 := Lib.hid (blk_alloc HF41.out (.cells #[.string S, .string S] 68 (0, 0)))
        clear HF41
        have HF50 := Lib.hid (blk_alloc HF42.out (.cells #[.string S, .string S] 68 (0, 0)))
        clear HF42
        have HF51 := Lib.hid (blk_alloc HF43.out (.cells #[.string S, .string S] 68 (0, 0)))
        clear HF43
        have HF52 : Hid (((w5.alloc (.cells #[.int .i64 0, .int .i64 0, .int .i64 0, .int .i64 0] 48 (0, 0))).alloc (.cells #[.string S, .string S] 68 (0, 0))).heap[w5.heap.size + 1]? = some (.cells #[.string S, .string S] 68 (0, 0))) := Lib.hid (blk_newN (W := (w5.alloc (.cells #[.int .i64 0, .int .i64 0, .int .i64 0, .int .i64 0] 48 (0, 0)))) (o := (.cells #[.string S, .string S] 68 (0, 0))) (by simp))
        have HB53 := Lib.hid (HB44.out.alloc (by have := HB44.out.size; simp at this ⊢; omega) (.cells #[.string S, .string S] 68 (0, 0)))
        clear HB44
        have hc54 : ((w5.alloc (.cells #[.int .i64 0, .int .i64 0, .int .i64 0, .int .i64 0] 48 (0, 0))).alloc (.cells #[.string S, .string S] 68 (0, 0))).cell? ⟨w.heap.size, 0, none⟩ = some (.int .i64 a) := by rw [cell_of_row _ _ _ _ _ _ HF49.out]; rfl
        have hc55 : w5.cell? ⟨w.heap.size, 0, none⟩ = some (.int .i64 a) := by rw [cell_of_row _ _ _ _ _ _ HF36.out]; rfl
        have hl56 : w.heap.size < w5.heap.size := lt_of_block HF36.out
        have hl57 : ¬ w.heap.size = w5.heap.size := by omega
        go_wp2_with fail
        refine (HS1.out ((w5.alloc (.cells #[.int .i64 0, .int .i64 0, .int .i64 0, .int .i64 0] 48 (0, 0))).alloc (.cells #[.string S, .string S] 68 (0, 0)))).mono ?_
        rintro e w6 ⟨rfl, hb6⟩
        clear hc45 hc46 hl47 hl48 hc54 hc55 hl56 hl57
        have HF58 := Lib.hid (blk_below HF49.out hb6)
        have HF59 := Lib.hid (blk_below HF50.out hb6)
        have HF60 := Lib.hid (blk_below HF51.out hb6)
        have HF61 := Lib.hid (blk_below HF52.out hb6)
        have HB62 := Lib.hid (HB53.out.trans (hb6.mono HB53.out.size))
        clear hb6 HB53 HF49 HF36 HF50 HF37 HF51 HF52
        have hc63 : w6.cell? ⟨w5.heap.size + 1, 0, none⟩ = some (.string S) := by rw [cell_of_row _ _ _ _ _ _ HF61.out]; rfl
        have hc64 : w6.cell? ⟨w5.heap.size + 1, 1, none⟩ = some (.string S) := by rw [cell_of_row _ _ _ _ _ _ HF61.out]; rfl
        have hz65 : w6.frozen? ⟨w5.heap.size + 1, 0, none⟩ = false := frozen_of_row _ _ _ _ _ HF61.out
        have HF66 := Lib.hid (show (w6.setCell ⟨w5.heap.size + 1, 0, none⟩ (.string D1)).heap[w.heap.size]? = some (.cells #[.int .i64 a, .int .i64 b, .int .i64 c, .int .i64 d] 48 (0, 0)) by rw [Below.heap_setCell _ _ _ _ (by show w.heap.size ≠ w5.heap.size + 1; omega)]; exact HF58.out)
        have HF67 := Lib.hid (show (w6.setCell ⟨w5.heap.size + 1, 0, none⟩ (.string D1)).heap[w1.heap.size]? = some (.cells #[.int .i64 a', .int .i64 bb, .int .i64 p, .int .i64 n] 48 (0, 0)) by rw [Below.heap_setCell _ _ _ _ (by show w1.heap.size ≠ w5.heap.size + 1; omega)]; exact HF59.out)
        have HF68 := Lib.hid (show (w6.setCell ⟨w5.heap.size + 1, 0, none⟩ (.string D1)).heap[w5.heap.size]? = some (.cells #[.int .i64 0, .int .i64 0, .int .i64 0, .int .i64 0] 48 (0, 0)) by rw [Below.heap_setCell _ _ _ _ (by show w5.heap.size ≠ w5.heap.size + 1; omega)]; exact HF60.out)
        have HF69 := Lib.hid (show (w6.setCell ⟨w5.heap.size + 1, 0, none⟩ (.string D1)).heap[w5.heap.size + 1]? = some (.cells #[.string D1, .string S] 68 (0, 0)) by have h := heap_setCell_at (i := 0) (u := .string D1) HF61.out; exact h)
        have HB70 := Lib.hid (HB62.out.setCell (p := ⟨w5.heap.size + 1, 0, none⟩) (by show w.heap.size ≤ w5.heap.size + 1; omega) (.string D1))
        go_wp2_with fail
        refine (HC.out (w6.setCell ⟨w5.heap.size + 1, 0, none⟩ (.string D1)) (HT.out.later HB70.out)).mono ?_
        rintro e w7 ⟨rfl, hb7⟩
        clear hc63 hc64 hz65
        have HF71 := Lib.hid (blk_below HF66.out hb7)
        have HF72 := Lib.hid (blk_below HF67.out hb7)
        have HF73 := Lib.hid (blk_below HF68.out hb7)
        have HF74 := Lib.hid (blk_below HF69.out hb7)
        have HB75 := Lib.hid (HB70.out.trans (hb7.mono HB70.out.size))
        clear hb7 HB70 HF66 HF67 HF68 HF69
        have hk76 : w.heap.size < w7.heap.size := lt_of_block HF71.out
        have hk77 : w1.heap.size < w7.heap.size := lt_of_block HF72.out
        have hk78 : w5.heap.size < w7.heap.size := lt_of_block HF73.out
        have hk79 : w5.heap.size + 1 < w7.heap.size := lt_of_block HF74.out
        have HF80 := Lib.hid (blk_alloc HF71.out (.cells #[.int .i64 a, .int .i64 b, .int .i64 c, .int .i64 d] 48 (0, 0)))
        have HF81 := Lib.hid (blk_alloc HF72.out (.cells #[.int .i64 a, .int .i64 b, .int .i64 c, .int .i64 d] 48 (0, 0)))
        have HF82 := Lib.hid (blk_alloc HF73.out (.cells #[.int .i64 a, .int .i64 b, .int .i64 c, .int .i64 d] 48 (0, 0)))
        have HF83 := Lib.hid (blk_alloc HF74.out (.cells #[.int .i64 a, .int .i64 b, .int .i64 c, .int .i64 d] 48 (0, 0)))
        have HF84 := Lib.hid (blk_new w7 (.cells #[.int .i64 a, .int .i64 b, .int .i64 c, .int .i64 d] 48 (0, 0)))
        have HB85 := Lib.hid (HB75.out.alloc HB75.out.size (.cells #[.int .i64 a, .int .i64 b, .int .i64 c, .int .i64 d] 48 (0, 0)))
        clear HB75
        have hc86 : (w7.alloc (.cells #[.int .i64 a, .int .i64 b, .int .i64 c, .int .i64 d] 48 (0, 0))).cell? ⟨w1.heap.size, 0, none⟩ = some (.int .i64 a') := by rw [cell_of_row _ _ _ _ _ _ HF81.out]; rfl
        have hc87 : w7.cell? ⟨w1.heap.size, 0, none⟩ = some (.int .i64 a') := by rw [cell_of_row _ _ _ _ _ _ HF72.out]; rfl
        have hc88 : (w7.alloc (.cells #[.int .i64 a, .int .i64 b, .int .i64 c, .int .i64 d] 48 (0, 0))).cell? ⟨w1.heap.size, 1, none⟩ = some (.int .i64 bb) := by rw [cell_of_row _ _ _ _ _ _ HF81.out]; rfl
        have hc89 : w7.cell? ⟨w1.heap.size, 1, none⟩ = some (.int .i64 bb) := by rw [cell_of_row _ _ _ _ _ _ HF72.out]; rfl
        have hc90 : (w7.alloc (.cells #[.int .i64 a, .int .i64 b, .int .i64 c, .int .i64 d] 48 (0, 0))).cell? ⟨w1.heap.size, 2, none⟩ = some (.int .i64 p) := by rw [cell_of_row _ _ _ _ _ _ HF81.out]; rfl
        have hc91 : w7.cell? ⟨w1.heap.size, 2, none⟩ = some (.int .i64 p) := by rw [cell_of_row _ _ _ _ _ _ HF72.out]; rfl
        have hc92 : (w7.alloc (.cells #[.int .i64 a, .int .i64 b, .int .i64 c, .int .i64 d] 48 (0, 0))).cell? ⟨w1.heap.size, 3, none⟩ = some (.int .i64 n) := by rw [cell_of_row _ _ _ _ _ _ HF81.out]; rfl
        have hc93 : w7.cell? ⟨w1.heap.size, 3, none⟩ = some (.int .i64 n) := by rw [cell_of_row _ _ _ _ _ _ HF72.out]; rfl
        have hl94 : w1.heap.size < w7.heap.size := lt_of_block HF72.out
        have hl95 : ¬ w1.heap.size = w7.heap.size := by omega
        have hc96 : (w7.alloc (.cells #[.int .i64 a, .int .i64 b, .int .i64 c, .int .i64 d] 48 (0, 0))).cell? ⟨w.heap.size, 0, none⟩ = some (.int .i64 a) := by rw [cell_of_row _ _ _ _ _ _ HF80.out]; rfl
        have hc97 : w7.cell? ⟨w.heap.size, 0, none⟩ = some (.int .i64 a) := by rw [cell_of_row _ _ _ _ _ _ HF71.out]; rfl
        have hc98 : (w7.alloc (.cells #[.int .i64 a, .int .i64 b, .int .i64 c, .int .i64 d] 48 (0, 0))).cell? ⟨w.heap.size, 1, none⟩ = some (.int .i64 b) := by rw [cell_of_row _ _ _ _ _ _ HF80.out]; rfl
        have hc99 : w7.cell? ⟨w.heap.size, 1, none⟩ = some (.int .i64 b) := by rw [cell_of_row _ _ _ _ _ _ HF71.out]; rfl
        have hc100 : (w7.alloc (.cells #[.int .i64 a, .int .i64 b, .int .i64 c, .int .i64 d] 48 (0, 0))).cell? ⟨w.heap.size, 2, none⟩ = some (.int .i64 c) := by rw [cell_of_row _ _ _ _ _ _ HF80.out]; rfl
        have hc101 : w7.cell? ⟨w.heap.size, 2, none⟩ = some (.int .i64 c) := by rw [cell_of_row _ _ _ _ _ _ HF71.out]; rfl
        have hc102 : (w7.alloc (.cells #[.int .i64 a, .int .i64 b, .int .i64 c, .int .i64 d] 48 (0, 0))).cell? ⟨w.heap.size, 3, none⟩ = some (.int .i64 d) := by rw [cell_of_row _ _ _ _ _ _ HF80.out]; rfl
        have hc103 : w7.cell? ⟨w.heap.size, 3, none⟩ = some (.int .i64 d) := by rw [cell_of_row _ _ _ _ _ _ HF71.out]; rfl
        have hl104 : w.heap.size < w7.heap.size := lt_of_block HF71.out
        have hl105 : ¬ w.heap.size = w7.heap.size := by omega
        go_wp2_with fail
        refine (HA.out (w7.alloc (.cells #[.int .i64 a, .int .i64 b, .int .i64 c, .int .i64 d] 48 (0, 0))) (HT.out.later HB85.out)).mono ?_
        rintro e w8 ⟨rfl, hb8⟩
        clear hc86 hc87 hc88 hc89 hc90 hc91 hc92 hc93 hl94 hl95 hc96 hc97 hc98 hc99 hc100 hc101 hc102 hc103 hl104 hl105
        have HF106 := Lib.hid (blk_below HF80.out hb8)
        have HF107 := Lib.hid (blk_below HF81.out hb8)
        have HF108 := Lib.hid (blk_below HF82.out hb8)
        have HF109 := Lib.hid (blk_below HF83.out hb8)
        have HF110 := Lib.hid (blk_below HF84.out hb8)
        have HB111 := Lib.hid (HB85.out.trans (hb8.mono HB85.out.size))
        clear hb8 HB85 HF80 HF71 HF81 HF72 HF82 HF73 HF83 HF74 HF84
        go_wp2_with fail
        go_ret
        exact ⟨rfl, HB111.out⟩
      · have b3 := True.intro
        by_cases hy : a < a2
        · rw [show a % 2 = 0 from m1] at HS1
          rw [show a' % 2 = 1 from m2] at HS2
          have q1 : (a' == a) = false := by simp; omega
          have q2 : (a == a') = false := by simp; omega
          have HAA := Lib.hid ha'
          have n1 : 0 ≤ a' := by omega
          have n2 : a' ≤ 4294967295 := by omega
          have hyo : decide (a < a2) = true := decide_eq_true (by omega)
          clear F1 F2 F3  m1 m2 ha' b3 hy
          have HB1 := Lib.hid (Below.refl w.heap.size w)
          go_enter Tryd.func9, Tryd.ntmps9
          go_wp2_with fail
          have HF2 := Lib.hid (blk_new w (.cells #[.int .i64 a, .int .i64 b, .int .i64 c, .int .i64 d] 48 (0, 0)))
          have HB3 := Lib.hid (HB1.out.alloc HB1.out.size (.cells #[.int .i64 a, .int .i64 b, .int .i64 c, .int .i64 d] 48 (0, 0)))
          clear HB1
          refine (HN.out (w.alloc (.cells #[.int .i64 a, .int .i64 b, .int .i64 c, .int .i64 d] 48 (0, 0)))).mono ?_
          rintro e w1 ⟨rfl, hb1⟩
          have HF4 := Lib.hid (blk_below HF2.out hb1)
          have HB5 := Lib.hid (HB3.out.trans (hb1.mono HB3.out.size))
          clear hb1 HB3 HF2
          have HF6 := Lib.hid (blk_alloc HF4.out (.cells #[.int .i64 a', .int .i64 bb, .int .i64 p, .int .i64 n] 48 (0, 0)))
          have HF7 := Lib.hid (blk_new w1 (.cells #[.int .i64 a', .int .i64 bb, .int .i64 p, .int .i64 n] 48 (0, 0)))
          have HB8 := Lib.hid (HB5.out.alloc HB5.out.size (.cells #[.int .i64 a', .int .i64 bb, .int .i64 p, .int .i64 n] 48 (0, 0)))
          clear HB5
          have hc9 : (w1.alloc (.cells #[.int .i64 a', .int .i64 bb, .int .i64 p, .int .i64 n] 48 (0, 0))).cell? ⟨w.heap.size, 0, none⟩ = some (.int .i64 a) := by rw [cell_of_row _ _ _ _ _ _ HF6.out]; rfl
          have hc10 : w1.cell? ⟨w.heap.size, 0, none⟩ = some (.int .i64 a) := by rw [cell_of_row _ _ _ _ _ _ HF4.out]; rfl
          have hc11 : (w1.alloc (.cells #[.int .i64 a', .int .i64 bb, .int .i64 p, .int .i64 n] 48 (0, 0))).cell? ⟨w.heap.size, 1, none⟩ = some (.int .i64 b) := by rw [cell_of_row _ _ _ _ _ _ HF6.out]; rfl
          have hc12 : w1.cell? ⟨w.heap.size, 1, none⟩ = some (.int .i64 b) := by rw [cell_of_row _ _ _ _ _ _ HF4.out]; rfl
          have hc13 : (w1.alloc (.cells #[.int .i64 a', .int .i64 bb, .int .i64 p, .int .i64 n] 48 (0, 0))).cell? ⟨w.heap.size, 2, none⟩ = some (.int .i64 c) := by rw [cell_of_row _ _ _ _ _ _ HF6.out]; rfl
          have hc14 : w1.cell? ⟨w.heap.size, 2, none⟩ = some (.int .i64 c) := by rw [cell_of_row _ _ _ _ _ _ HF4.out]; rfl
          have hc15 : (w1.alloc (.cells #[.int .i64 a', .int .i64 bb, .int .i64 p, .int .i64 n] 48 (0, 0))).cell? ⟨w.heap.size, 3, none⟩ = some (.int .i64 d) := by rw [cell_of_row _ _ _ _ _ _ HF6.out]; rfl
          have hc16 : w1.cell? ⟨w.heap.size, 3, none⟩ = some (.int .i64 d) := by rw [cell_of_row _ _ _ _ _ _ HF4.out]; rfl
          have hl17 : w.heap.size < w1.heap.size := lt_of_block HF4.out
          have hl18 : ¬ w.heap.size = w1.heap.size := by omega
          go_wp2_with fail
          refine (HP1.out (w1.alloc (.cells #[.int .i64 a', .int .i64 bb, .int .i64 p, .int .i64 n] 48 (0, 0))) (HT.out.later HB8.out)).mono ?_
          rintro e w2 ⟨rfl, hb2⟩
          clear hc9 hc10 hc11 hc12 hc13 hc14 hc15 hc16 hl17 hl18
          have HF19 := Lib.hid (blk_below HF6.out hb2)
          have HF20 := Lib.hid (blk_below HF7.out hb2)
          have HB21 := Lib.hid (HB8.out.trans (hb2.mono HB8.out.size))
          clear hb2 HB8 HF6 HF4 HF7
          have hc22 : w2.cell? ⟨w1.heap.size, 0, none⟩ = some (.int .i64 a') := by rw [cell_of_row _ _ _ _ _ _ HF20.out]; rfl
          have hc23 : w2.cell? ⟨w1.heap.size, 1, none⟩ = some (.int .i64 bb) := by rw [cell_of_row _ _ _ _ _ _ HF20.out]; rfl
          have hc24 : w2.cell? ⟨w1.heap.size, 2, none⟩ = some (.int .i64 p) := by rw [cell_of_row _ _ _ _ _ _ HF20.out]; rfl
          have hc25 : w2.cell? ⟨w1.heap.size, 3, none⟩ = some (.int .i64 n) := by rw [cell_of_row _ _ _ _ _ _ HF20.out]; rfl
          go_wp2_with fail
          refine (HP2.out w2 (HT.out.later HB21.out)).mono ?_
          rintro e w3 ⟨rfl, hb3⟩
          clear hc22 hc23 hc24 hc25
          have HF26 := Lib.hid (blk_below HF19.out hb3)
          have HF27 := Lib.hid (blk_below HF20.out hb3)
          have HB28 := Lib.hid (HB21.out.trans (hb3.mono HB21.out.size))
          clear hb3 HB21 HF19 HF20
          have hc29 : w3.cell? ⟨w.heap.size, 0, none⟩ = some (.int .i64 a) := by rw [cell_of_row _ _ _ _ _ _ HF26.out]; rfl
          have hc30 : w3.cell? ⟨w1.heap.size, 0, none⟩ = some (.int .i64 a') := by rw [cell_of_row _ _ _ _ _ _ HF27.out]; rfl
          go_wp2_with fail
          have hr31 := fun d os => cell_regrown hc29 d os
          have hr32 := fun d os => cell_regrown hc30 d os
          refine wp_region_quiet_below (by kernel_rfl) (by kernel_rfl) ?_
          repeat (any_goals (first | go_big_quiet_step ((go_at_call 42; first | exact Calls.regrown_of (HS1.out _) | exact Calls.regrown_of (HS2.out _))) | quiet_step ((go_at_call 42; first | exact Calls.regrown_of (HS1.out _) | exact Calls.regrown_of (HS2.out _)))))
          refine wpQuiet_nil ?_
          intro w4 hw4
          have hb4 := below_anyY hw4
          clear hw4 hr31 hr32
          clear hc29 hc30
          have HF33 := Lib.hid (blk_below HF26.out hb4)
          have HF34 := Lib.hid (blk_below HF27.out hb4)
          have HB35 := Lib.hid (HB28.out.trans (hb4.mono HB28.out.size))
          clear hb4 HB28 HF26 HF27
          go_wp2_with fail
          refine (HTK.out w4 (HT.out.later HB35.out)).mono ?_
          rintro e w5 ⟨rfl, hb5⟩
          have HF36 := Lib.hid (blk_below HF33.out hb5)
          have HF37 := Lib.hid (blk_below HF34.out hb5)
          have HB38 := Lib.hid (HB35.out.trans (hb5.mono HB35.out.size))
          clear hb5 HB35 HF33 HF34
          have hk39 : w.heap.size < w5.heap.size := lt_of_block HF36.out
          have hk40 : w1.heap.size < w5.heap.size := lt_of_block HF37.out
          have HF41 := Lib.hid (blk_alloc HF36.out (.cells #[.int .i64 a2, .int .i64 b2', .int .i64 c2, .int .i64 d2] 48 (0, 0)))
          have HF42 := Lib.hid (blk_alloc HF37.out (.cells #[.int .i64 a2, .int .i64 b2', .int .i64 c2, .int .i64 d2] 48 (0, 0)))
          have HF43 := Lib.hid (blk_new w5 (.cells #[.int .i64 a2, .int .i64 b2', .int .i64 c2, .int .i64 d2] 48 (0, 0)))
          have HB44 := Lib.hid (HB38.out.alloc HB38.out.size (.cells #[.int .i64 a2, .int .i64 b2', .int .i64 c2, .int .i64 d2] 48 (0, 0)))
          clear HB38
          have hc45 : (w5.alloc (.cells #[.int .i64 a2, .int .i64 b2', .int .i64 c2, .int .i64 d2] 48 (0, 0))).cell? ⟨w.heap.size, 0, none⟩ = some (.int .i64 a) := by rw [cell_of_row _ _ _ _ _ _ HF41.out]; rfl
          have hc46 : w5.cell? ⟨w.heap.size, 0, none⟩ = some (.int .i64 a) := by rw [cell_of_row _ _ _ _ _ _ HF36.out]; rfl
          have hl47 : w.heap.size < w5.heap.size := lt_of_block HF36.out
          have hl48 : ¬ w.heap.size = w5.heap.size := by omega
          go_wp2_with fail
          refine (HA.out (w5.alloc (.cells #[.int .i64 a2, .int .i64 b2', .int .i64 c2, .int .i64 d2] 48 (0, 0))) (HT.out.later HB44.out)).mono ?_
          rintro e w6 ⟨rfl, hb6⟩
          clear hc45 hc46 hl47 hl48
          have HF49 := Lib.hid (blk_below HF41.out hb6)
          have HF50 := Lib.hid (blk_below HF42.out hb6)
          have HF51 := Lib.hid (blk_below HF43.out hb6)
          have HB52 := Lib.hid (HB44.out.trans (hb6.mono HB44.out.size))
          clear hb6 HB44 HF41 HF36 HF42 HF37 HF43
          go_wp2_with fail
          go_ret
          exact ⟨rfl, HB52.out⟩
        · have hb1 : bst (a, b, c, d) (a2, b2', c2, d2) 1 = (a, b, c, d) := bst_x _ m1 p2
          have HC := Lib.hid (fun (W : World) (h : Tab W) => ch_of F1 F3 ((bst_k (x := (a, b, c, d)) (by rw [hb1]; intro g; have := g.2; dsimp only at this; omega)).trans hb1) (by omega) W h)
          rw [show a % 2 = 0 from m1] at HS1
          rw [show a' % 2 = 1 from m2] at HS2
          have q1 : (a' == a) = false := by simp; omega
          have q2 : (a == a') = false := by simp; omega
          have HAA := Lib.hid ha'
          have n1 : 0 ≤ a' := by omega
          have n2 : a' ≤ 4294967295 := by omega
          have hyo : decide (a < a2) = false := decide_eq_false (by omega)
          clear F1 F2 F3 hb1 m1 m2 ha' b3 hy
          have HB1 := Lib.hid (Below.refl w.heap.size w)
          go_enter Tryd.func9, Tryd.ntmps9
          go_wp2_with fail
          have HF2 := Lib.hid (blk_new w (.cells #[.int .i64 a, .int .i64 b, .int .i64 c, .int .i64 d] 48 (0, 0)))
          have HB3 := Lib.hid (HB1.out.alloc HB1.out.size (.cells #[.int .i64 a, .int .i64 b, .int .i64 c, .int .i64 d] 48 (0, 0)))
          clear HB1
          refine (HN.out (w.alloc (.cells #[.int .i64 a, .int .i64 b, .int .i64 c, .int .i64 d] 48 (0, 0)))).mono ?_
          rintro e w1 ⟨rfl, hb1⟩
          have HF4 := Lib.hid (blk_below HF2.out hb1)
          have HB5 := Lib.hid (HB3.out.trans (hb1.mono HB3.out.size))
          clear hb1 HB3 HF2
          have HF6 := Lib.hid (blk_alloc HF4.out (.cells #[.int .i64 a', .int .i64 bb, .int .i64 p, .int .i64 n] 48 (0, 0)))
          have HF7 := Lib.hid (blk_new w1 (.cells #[.int .i64 a', .int .i64 bb, .int .i64 p, .int .i64 n] 48 (0, 0)))
          have HB8 := Lib.hid (HB5.out.alloc HB5.out.size (.cells #[.int .i64 a', .int .i64 bb, .int .i64 p, .int .i64 n] 48 (0, 0)))
          clear HB5
          have hc9 : (w1.alloc (.cells #[.int .i64 a', .int .i64 bb, .int .i64 p, .int .i64 n] 48 (0, 0))).cell? ⟨w.heap.size, 0, none⟩ = some (.int .i64 a) := by rw [cell_of_row _ _ _ _ _ _ HF6.out]; rfl
          have hc10 : w1.cell? ⟨w.heap.size, 0, none⟩ = some (.int .i64 a) := by rw [cell_of_row _ _ _ _ _ _ HF4.out]; rfl
          have hc11 : (w1.alloc (.cells #[.int .i64 a', .int .i64 bb, .int .i64 p, .int .i64 n] 48 (0, 0))).cell? ⟨w.heap.size, 1, none⟩ = some (.int .i64 b) := by rw [cell_of_row _ _ _ _ _ _ HF6.out]; rfl
          have hc12 : w1.cell? ⟨w.heap.size, 1, none⟩ = some (.int .i64 b) := by rw [cell_of_row _ _ _ _ _ _ HF4.out]; rfl
          have hc13 : (w1.alloc (.cells #[.int .i64 a', .int .i64 bb, .int .i64 p, .int .i64 n] 48 (0, 0))).cell? ⟨w.heap.size, 2, none⟩ = some (.int .i64 c) := by rw [cell_of_row _ _ _ _ _ _ HF6.out]; rfl
          have hc14 : w1.cell? ⟨w.heap.size, 2, none⟩ = some (.int .i64 c) := by rw [cell_of_row _ _ _ _ _ _ HF4.out]; rfl
          have hc15 : (w1.alloc (.cells #[.int .i64 a', .int .i64 bb, .int .i64 p, .int .i64 n] 48 (0, 0))).cell? ⟨w.heap.size, 3, none⟩ = some (.int .i64 d) := by rw [cell_of_row _ _ _ _ _ _ HF6.out]; rfl
          have hc16 : w1.cell? ⟨w.heap.size, 3, none⟩ = some (.int .i64 d) := by rw [cell_of_row _ _ _ _ _ _ HF4.out]; rfl
          have hl17 : w.heap.size < w1.heap.size := lt_of_block HF4.out
          have hl18 : ¬ w.heap.size = w1.heap.size := by omega
          go_wp2_with fail
          refine (HP1.out (w1.alloc (.cells #[.int .i64 a', .int .i64 bb, .int .i64 p, .int .i64 n] 48 (0, 0))) (HT.out.later HB8.out)).mono ?_
          rintro e w2 ⟨rfl, hb2⟩
          clear hc9 hc10 hc11 hc12 hc13 hc14 hc15 hc16 hl17 hl18
          have HF19 := Lib.hid (blk_below HF6.out hb2)
          have HF20 := Lib.hid (blk_below HF7.out hb2)
          have HB21 := Lib.hid (HB8.out.trans (hb2.mono HB8.out.size))
          clear hb2 HB8 HF6 HF4 HF7
          have hc22 : w2.cell? ⟨w1.heap.size, 0, none⟩ = some (.int .i64 a') := by rw [cell_of_row _ _ _ _ _ _ HF20.out]; rfl
          have hc23 : w2.cell? ⟨w1.heap.size, 1, none⟩ = some (.int .i64 bb) := by rw [cell_of_row _ _ _ _ _ _ HF20.out]; rfl
          have hc24 : w2.cell? ⟨w1.heap.size, 2, none⟩ = some (.int .i64 p) := by rw [cell_of_row _ _ _ _ _ _ HF20.out]; rfl
          have hc25 : w2.cell? ⟨w1.heap.size, 3, none⟩ = some (.int .i64 n) := by rw [cell_of_row _ _ _ _ _ _ HF20.out]; rfl
          go_wp2_with fail
          refine (HP2.out w2 (HT.out.later HB21.out)).mono ?_
          rintro e w3 ⟨rfl, hb3⟩
          clear hc22 hc23 hc24 hc25
          have HF26 := Lib.hid (blk_below HF19.out hb3)
          have HF27 := Lib.hid (blk_below HF20.out hb3)
          have HB28 := Lib.hid (HB21.out.trans (hb3.mono HB21.out.size))
          clear hb3 HB21 HF19 HF20
          have hc29 : w3.cell? ⟨w.heap.size, 0, none⟩ = some (.int .i64 a) := by rw [cell_of_row _ _ _ _ _ _ HF26.out]; rfl
          have hc30 : w3.cell? ⟨w1.heap.size, 0, none⟩ = some (.int .i64 a') := by rw [cell_of_row _ _ _ _ _ _ HF27.out]; rfl
          go_wp2_with fail
          have hr31 := fun d os => cell_regrown hc29 d os
          have hr32 := fun d os => cell_regrown hc30 d os
          refine wp_region_quiet_below (by kernel_rfl) (by kernel_rfl) ?_
          repeat (any_goals (first | go_big_quiet_step ((go_at_call 42; first | exact Calls.regrown_of (HS1.out _) | exact Calls.regrown_of (HS2.out _))) | quiet_step ((go_at_call 42; first | exact Calls.regrown_of (HS1.out _) | exact Calls.regrown_of (HS2.out _)))))
          refine wpQuiet_nil ?_
          intro w4 hw4
          have hb4 := below_anyY hw4
          clear hw4 hr31 hr32
          clear hc29 hc30
          have HF33 := Lib.hid (blk_below HF26.out hb4)
          have HF34 := Lib.hid (blk_below HF27.out hb4)
          have HB35 := Lib.hid (HB28.out.trans (hb4.mono HB28.out.size))
          clear hb4 HB28 HF26 HF27
          go_wp2_with fail
          refine (HTK.out w4 (HT.out.later HB35.out)).mono ?_
          rintro e w5 ⟨rfl, hb5⟩
          have HF36 := Lib.hid (blk_below HF33.out hb5)
          have HF37 := Lib.hid (blk_below HF34.out hb5)
          have HB38 := Lib.hid (HB35.out.trans (hb5.mono HB35.out.size))
          clear hb5 HB35 HF33 HF34
          have hk39 : w.heap.size < w5.heap.size := lt_of_block HF36.out
          have hk40 : w1.heap.size < w5.heap.size := lt_of_block HF37.out
          have HF41 := Lib.hid (blk_alloc HF36.out (.cells #[.int .i64 a2, .int .i64 b2', .int .i64 c2, .int .i64 d2] 48 (0, 0)))
          have HF42 := Lib.hid (blk_alloc HF37.out (.cells #[.int .i64 a2, .int .i64 b2', .int .i64 c2, .int .i64 d2] 48 (0, 0)))
          have HF43 := Lib.hid (blk_new w5 (.cells #[.int .i64 a2, .int .i64 b2', .int .i64 c2, .int .i64 d2] 48 (0, 0)))
          have HB44 := Lib.hid (HB38.out.alloc HB38.out.size (.cells #[.int .i64 a2, .int .i64 b2', .int .i64 c2, .int .i64 d2] 48 (0, 0)))
          clear HB38
          have hc45 : (w5.alloc (.cells #[.int .i64 a2, .int .i64 b2', .int .i64 c2, .int .i64 d2] 48 (0, 0))).cell? ⟨w.heap.size, 0, none⟩ = some (.int .i64 a) := by rw [cell_of_row _ _ _ _ _ _ HF41.out]; rfl
          have hc46 : w5.cell? ⟨w.heap.size, 0, none⟩ = some (.int .i64 a) := by rw [cell_of_row _ _ _ _ _ _ HF36.out]; rfl
          have hl47 : w.heap.size < w5.heap.size := lt_of_block HF36.out
          have hl48 : ¬ w.heap.size = w5.heap.size := by omega
          have HF49 := Lib.hid (blk_alloc HF41.out (.cells #[.string S, .string S] 68 (0, 0)))
          clear HF41
          have HF50 := Lib.hid (blk_alloc HF42.out (.cells #[.string S, .string S] 68 (0, 0)))
          clear HF42
          have HF51 := Lib.hid (blk_alloc HF43.out (.cells #[.string S, .string S] 68 (0, 0)))
          clear HF43
          have HF52 : Hid (((w5.alloc (.cells #[.int .i64 a2, .int .i64 b2', .int .i64 c2, .int .i64 d2] 48 (0, 0))).alloc (.cells #[.string S, .string S] 68 (0, 0))).heap[w5.heap.size + 1]? = some (.cells #[.string S, .string S] 68 (0, 0))) := Lib.hid (blk_newN (W := (w5.alloc (.cells #[.int .i64 a2, .int .i64 b2', .int .i64 c2, .int .i64 d2] 48 (0, 0)))) (o := (.cells #[.string S, .string S] 68 (0, 0))) (by simp))
          have HB53 := Lib.hid (HB44.out.alloc (by have := HB44.out.size; simp at this ⊢; omega) (.cells #[.string S, .string S] 68 (0, 0)))
          clear HB44
          have hc54 : ((w5.alloc (.cells #[.int .i64 a2, .int .i64 b2', .int .i64 c2, .int .i64 d2] 48 (0, 0))).alloc (.cells #[.string S, .string S] 68 (0, 0))).cell? ⟨w.heap.size, 0, none⟩ = some (.int .i64 a) := by rw [cell_of_row _ _ _ _ _ _ HF49.out]; rfl
          have hc55 : w5.cell? ⟨w.heap.size, 0, none⟩ = some (.int .i64 a) := by rw [cell_of_row _ _ _ _ _ _ HF36.out]; rfl
          have hl56 : w.heap.size < w5.heap.size := lt_of_block HF36.out
          have hl57 : ¬ w.heap.size = w5.heap.size := by omega
          go_wp2_with fail
          refine (HS1.out ((w5.alloc (.cells #[.int .i64 a2, .int .i64 b2', .int .i64 c2, .int .i64 d2] 48 (0, 0))).alloc (.cells #[.string S, .string S] 68 (0, 0)))).mono ?_
          rintro e w6 ⟨rfl, hb6⟩
          clear hc45 hc46 hl47 hl48 hc54 hc55 hl56 hl57
          have HF58 := Lib.hid (blk_below HF49.out hb6)
          have HF59 := Lib.hid (blk_below HF50.out hb6)
          have HF60 := Lib.hid (blk_below HF51.out hb6)
          have HF61 := Lib.hid (blk_below HF52.out hb6)
          have HB62 := Lib.hid (HB53.out.trans (hb6.mono HB53.out.size))
          clear hb6 HB53 HF49 HF36 HF50 HF37 HF51 HF52
          have hc63 : w6.cell? ⟨w5.heap.size + 1, 0, none⟩ = some (.string S) := by rw [cell_of_row _ _ _ _ _ _ HF61.out]; rfl
          have hc64 : w6.cell? ⟨w5.heap.size + 1, 1, none⟩ = some (.string S) := by rw [cell_of_row _ _ _ _ _ _ HF61.out]; rfl
          have hz65 : w6.frozen? ⟨w5.heap.size + 1, 0, none⟩ = false := frozen_of_row _ _ _ _ _ HF61.out
          have HF66 := Lib.hid (show (w6.setCell ⟨w5.heap.size + 1, 0, none⟩ (.string D1)).heap[w.heap.size]? = some (.cells #[.int .i64 a, .int .i64 b, .int .i64 c, .int .i64 d] 48 (0, 0)) by rw [Below.heap_setCell _ _ _ _ (by show w.heap.size ≠ w5.heap.size + 1; omega)]; exact HF58.out)
          have HF67 := Lib.hid (show (w6.setCell ⟨w5.heap.size + 1, 0, none⟩ (.string D1)).heap[w1.heap.size]? = some (.cells #[.int .i64 a', .int .i64 bb, .int .i64 p, .int .i64 n] 48 (0, 0)) by rw [Below.heap_setCell _ _ _ _ (by show w1.heap.size ≠ w5.heap.size + 1; omega)]; exact HF59.out)
          have HF68 := Lib.hid (show (w6.setCell ⟨w5.heap.size + 1, 0, none⟩ (.string D1)).heap[w5.heap.size]? = some (.cells #[.int .i64 a2, .int .i64 b2', .int .i64 c2, .int .i64 d2] 48 (0, 0)) by rw [Below.heap_setCell _ _ _ _ (by show w5.heap.size ≠ w5.heap.size + 1; omega)]; exact HF60.out)
          have HF69 := Lib.hid (show (w6.setCell ⟨w5.heap.size + 1, 0, none⟩ (.string D1)).heap[w5.heap.size + 1]? = some (.cells #[.string D1, .string S] 68 (0, 0)) by have h := heap_setCell_at (i := 0) (u := .string D1) HF61.out; exact h)
          have HB70 := Lib.hid (HB62.out.setCell (p := ⟨w5.heap.size + 1, 0, none⟩) (by show w.heap.size ≤ w5.heap.size + 1; omega) (.string D1))
          go_wp2_with fail
          refine (HC.out (w6.setCell ⟨w5.heap.size + 1, 0, none⟩ (.string D1)) (HT.out.later HB70.out)).mono ?_
          rintro e w7 ⟨rfl, hb7⟩
          clear hc63 hc64 hz65
          have HF71 := Lib.hid (blk_below HF66.out hb7)
          have HF72 := Lib.hid (blk_below HF67.out hb7)
          have HF73 := Lib.hid (blk_below HF68.out hb7)
          have HF74 := Lib.hid (blk_below HF69.out hb7)
          have HB75 := Lib.hid (HB70.out.trans (hb7.mono HB70.out.size))
          clear hb7 HB70 HF66 HF67 HF68 HF69
          have hk76 : w.heap.size < w7.heap.size := lt_of_block HF71.out
          have hk77 : w1.heap.size < w7.heap.size := lt_of_block HF72.out
          have hk78 : w5.heap.size < w7.heap.size := lt_of_block HF73.out
          have hk79 : w5.heap.size + 1 < w7.heap.size := lt_of_block HF74.out
          have HF80 := Lib.hid (blk_alloc HF71.out (.cells #[.int .i64 a, .int .i64 b, .int .i64 c, .int .i64 d] 48 (0, 0)))
          have HF81 := Lib.hid (blk_alloc HF72.out (.cells #[.int .i64 a, .int .i64 b, .int .i64 c, .int .i64 d] 48 (0, 0)))
          have HF82 := Lib.hid (blk_alloc HF73.out (.cells #[.int .i64 a, .int .i64 b, .int .i64 c, .int .i64 d] 48 (0, 0)))
          have HF83 := Lib.hid (blk_alloc HF74.out (.cells #[.int .i64 a, .int .i64 b, .int .i64 c, .int .i64 d] 48 (0, 0)))
          have HF84 := Lib.hid (blk_new w7 (.cells #[.int .i64 a, .int .i64 b, .int .i64 c, .int .i64 d] 48 (0, 0)))
          have HB85 := Lib.hid (HB75.out.alloc HB75.out.size (.cells #[.int .i64 a, .int .i64 b, .int .i64 c, .int .i64 d] 48 (0, 0)))
          clear HB75
          have hc86 : (w7.alloc (.cells #[.int .i64 a, .int .i64 b, .int .i64 c, .int .i64 d] 48 (0, 0))).cell? ⟨w1.heap.size, 0, none⟩ = some (.int .i64 a') := by rw [cell_of_row _ _ _ _ _ _ HF81.out]; rfl
          have hc87 : w7.cell? ⟨w1.heap.size, 0, none⟩ = some (.int .i64 a') := by rw [cell_of_row _ _ _ _ _ _ HF72.out]; rfl
          have hc88 : (w7.alloc (.cells #[.int .i64 a, .int .i64 b, .int .i64 c, .int .i64 d] 48 (0, 0))).cell? ⟨w1.heap.size, 1, none⟩ = some (.int .i64 bb) := by rw [cell_of_row _ _ _ _ _ _ HF81.out]; rfl
          have hc89 : w7.cell? ⟨w1.heap.size, 1, none⟩ = some (.int .i64 bb) := by rw [cell_of_row _ _ _ _ _ _ HF72.out]; rfl
          have hc90 : (w7.alloc (.cells #[.int .i64 a, .int .i64 b, .int .i64 c, .int .i64 d] 48 (0, 0))).cell? ⟨w1.heap.size, 2, none⟩ = some (.int .i64 p) := by rw [cell_of_row _ _ _ _ _ _ HF81.out]; rfl
          have hc91 : w7.cell? ⟨w1.heap.size, 2, none⟩ = some (.int .i64 p) := by rw [cell_of_row _ _ _ _ _ _ HF72.out]; rfl
          have hc92 : (w7.alloc (.cells #[.int .i64 a, .int .i64 b, .int .i64 c, .int .i64 d] 48 (0, 0))).cell? ⟨w1.heap.size, 3, none⟩ = some (.int .i64 n) := by rw [cell_of_row _ _ _ _ _ _ HF81.out]; rfl
          have hc93 : w7.cell? ⟨w1.heap.size, 3, none⟩ = some (.int .i64 n) := by rw [cell_of_row _ _ _ _ _ _ HF72.out]; rfl
          have hl94 : w1.heap.size < w7.heap.size := lt_of_block HF72.out
          have hl95 : ¬ w1.heap.size = w7.heap.size := by omega
          have hc96 : (w7.alloc (.cells #[.int .i64 a, .int .i64 b, .int .i64 c, .int .i64 d] 48 (0, 0))).cell? ⟨w.heap.size, 0, none⟩ = some (.int .i64 a) := by rw [cell_of_row _ _ _ _ _ _ HF80.out]; rfl
          have hc97 : w7.cell? ⟨w.heap.size, 0, none⟩ = some (.int .i64 a) := by rw [cell_of_row _ _ _ _ _ _ HF71.out]; rfl
          have hc98 : (w7.alloc (.cells #[.int .i64 a, .int .i64 b, .int .i64 c, .int .i64 d] 48 (0, 0))).cell? ⟨w.heap.size, 1, none⟩ = some (.int .i64 b) := by rw [cell_of_row _ _ _ _ _ _ HF80.out]; rfl
          have hc99 : w7.cell? ⟨w.heap.size, 1, none⟩ = some (.int .i64 b) := by rw [cell_of_row _ _ _ _ _ _ HF71.out]; rfl
          have hc100 : (w7.alloc (.cells #[.int .i64 a, .int .i64 b, .int .i64 c, .int .i64 d] 48 (0, 0))).cell? ⟨w.heap.size, 2, none⟩ = some (.int .i64 c) := by rw [cell_of_row _ _ _ _ _ _ HF80.out]; rfl
          have hc101 : w7.cell? ⟨w.heap.size, 2, none⟩ = some (.int .i64 c) := by rw [cell_of_row _ _ _ _ _ _ HF71.out]; rfl
          have hc102 : (w7.alloc (.cells #[.int .i64 a, .int .i64 b, .int .i64 c, .int .i64 d] 48 (0, 0))).cell? ⟨w.heap.size, 3, none⟩ = some (.int .i64 d) := by rw [cell_of_row _ _ _ _ _ _ HF80.out]; rfl
          have hc103 : w7.cell? ⟨w.heap.size, 3, none⟩ = some (.int .i64 d) := by rw [cell_of_row _ _ _ _ _ _ HF71.out]; rfl
          have hl104 : w.heap.size < w7.heap.size := lt_of_block HF71.out
          have hl105 : ¬ w.heap.size = w7.heap.size := by omega
          go_wp2_with fail
          refine (HA.out (w7.alloc (.cells #[.int .i64 a, .int .i64 b, .int .i64 c, .int .i64 d] 48 (0, 0))) (HT.out.later HB85.out)).mono ?_
          rintro e w8 ⟨rfl, hb8⟩
          clear hc86 hc87 hc88 hc89 hc90 hc91 hc92 hc93 hl94 hl95 hc96 hc97 hc98 hc99 hc100 hc101 hc102 hc103 hl104 hl105
          have HF106 := Lib.hid (blk_below HF80.out hb8)
          have HF107 := Lib.hid (blk_below HF81.out hb8)
          have HF108 := Lib.hid (blk_below HF82.out hb8)
          have HF109 := Lib.hid (blk_below HF83.out hb8)
          have HF110 := Lib.hid (blk_below HF84.out hb8)
          have HB111 := Lib.hid (HB85.out.trans (hb8.mono HB85.out.size))
          clear hb8 HB85 HF80 HF71 HF81 HF72 HF82 HF73 HF83 HF74 HF84
          go_wp2_with fail
          go_ret
          exact ⟨rfl, HB111.out⟩
  · cases came with
    | true =>
      have hb1 : bst (a', bb, p, n) (a, b, c, d) 1 = (a', bb, p, n) := bst_x _ m2 (by omega)
      have HC := Lib.hid (fun (W : World) (h : Tab W) => ch_of F2 F1 ((bst_k (x := (a', bb, p, n)) (by rw [hb1]; intro g; have := g.2; dsimp only at this; omega)).trans hb1) (by omega) W h)
      rw [show a % 2 = 1 from m1] at HS1
      rw [show a' % 2 = 0 from m2] at HS2
      have q1 : (a' == a) = false := by simp; omega
      have q2 : (a == a') = false := by simp; omega
      have HAA := Lib.hid ha'
      have n1 : 0 ≤ a' := by omega
      have n2 : a' ≤ 4294967295 := by omega
      clear F1 F2 F3 hb1 m1 m2 ha' b3
      have HB1 := Lib.hid (Below.refl w.heap.size w)
      go_enter Tryd.func9, Tryd.ntmps9
      go_wp2_with fail
      have HF2 := Lib.hid (blk_new w (.cells #[.int .i64 a, .int .i64 b, .int .i64 c, .int .i64 d] 48 (0, 0)))
      have HB3 := Lib.hid (HB1.out.alloc HB1.out.size (.cells #[.int .i64 a, .int .i64 b, .int .i64 c, .int .i64 d] 48 (0, 0)))
      clear HB1
      refine (HN.out (w.alloc (.cells #[.int .i64 a, .int .i64 b, .int .i64 c, .int .i64 d] 48 (0, 0)))).mono ?_
      rintro e w1 ⟨rfl, hb1⟩
      have HF4 := Lib.hid (blk_below HF2.out hb1)
      have HB5 := Lib.hid (HB3.out.trans (hb1.mono HB3.out.size))
      clear hb1 HB3 HF2
      have HF6 := Lib.hid (blk_alloc HF4.out (.cells #[.int .i64 a', .int .i64 bb, .int .i64 p, .int .i64 n] 48 (0, 0)))
      have HF7 := Lib.hid (blk_new w1 (.cells #[.int .i64 a', .int .i64 bb, .int .i64 p, .int .i64 n] 48 (0, 0)))
      have HB8 := Lib.hid (HB5.out.alloc HB5.out.size (.cells #[.int .i64 a', .int .i64 bb, .int .i64 p, .int .i64 n] 48 (0, 0)))
      clear HB5
      have hc9 : (w1.alloc (.cells #[.int .i64 a', .int .i64 bb, .int .i64 p, .int .i64 n] 48 (0, 0))).cell? ⟨w.heap.size, 0, none⟩ = some (.int .i64 a) := by rw [cell_of_row _ _ _ _ _ _ HF6.out]; rfl
      have hc10 : w1.cell? ⟨w.heap.size, 0, none⟩ = some (.int .i64 a) := by rw [cell_of_row _ _ _ _ _ _ HF4.out]; rfl
      have hc11 : (w1.alloc (.cells #[.int .i64 a', .int .i64 bb, .int .i64 p, .int .i64 n] 48 (0, 0))).cell? ⟨w.heap.size, 1, none⟩ = some (.int .i64 b) := by rw [cell_of_row _ _ _ _ _ _ HF6.out]; rfl
      have hc12 : w1.cell? ⟨w.heap.size, 1, none⟩ = some (.int .i64 b) := by rw [cell_of_row _ _ _ _ _ _ HF4.out]; rfl
      have hc13 : (w1.alloc (.cells #[.int .i64 a', .int .i64 bb, .int .i64 p, .int .i64 n] 48 (0, 0))).cell? ⟨w.heap.size, 2, none⟩ = some (.int .i64 c) := by rw [cell_of_row _ _ _ _ _ _ HF6.out]; rfl
      have hc14 : w1.cell? ⟨w.heap.size, 2, none⟩ = some (.int .i64 c) := by rw [cell_of_row _ _ _ _ _ _ HF4.out]; rfl
      have hc15 : (w1.alloc (.cells #[.int .i64 a', .int .i64 bb, .int .i64 p, .int .i64 n] 48 (0, 0))).cell? ⟨w.heap.size, 3, none⟩ = some (.int .i64 d) := by rw [cell_of_row _ _ _ _ _ _ HF6.out]; rfl
      have hc16 : w1.cell? ⟨w.heap.size, 3, none⟩ = some (.int .i64 d) := by rw [cell_of_row _ _ _ _ _ _ HF4.out]; rfl
      have hl17 : w.heap.size < w1.heap.size := lt_of_block HF4.out
      have hl18 : ¬ w.heap.size = w1.heap.size := by omega
      go_wp2_with fail
      refine (HP1.out (w1.alloc (.cells #[.int .i64 a', .int .i64 bb, .int .i64 p, .int .i64 n] 48 (0, 0))) (HT.out.later HB8.out)).mono ?_
      rintro e w2 ⟨rfl, hb2⟩
      clear hc9 hc10 hc11 hc12 hc13 hc14 hc15 hc16 hl17 hl18
      have HF19 := Lib.hid (blk_below HF6.out hb2)
      have HF20 := Lib.hid (blk_below HF7.out hb2)
      have HB21 := Lib.hid (HB8.out.trans (hb2.mono HB8.out.size))
      clear hb2 HB8 HF6 HF4 HF7
      have hc22 : w2.cell? ⟨w1.heap.size, 0, none⟩ = some (.int .i64 a') := by rw [cell_of_row _ _ _ _ _ _ HF20.out]; rfl
      have hc23 : w2.cell? ⟨w1.heap.size, 1, none⟩ = some (.int .i64 bb) := by rw [cell_of_row _ _ _ _ _ _ HF20.out]; rfl
      have hc24 : w2.cell? ⟨w1.heap.size, 2, none⟩ = some (.int .i64 p) := by rw [cell_of_row _ _ _ _ _ _ HF20.out]; rfl
      have hc25 : w2.cell? ⟨w1.heap.size, 3, none⟩ = some (.int .i64 n) := by rw [cell_of_row _ _ _ _ _ _ HF20.out]; rfl
      go_wp2_with fail
      refine (HP2.out w2 (HT.out.later HB21.out)).mono ?_
      rintro e w3 ⟨rfl, hb3⟩
      clear hc22 hc23 hc24 hc25
      have HF26 := Lib.hid (blk_below HF19.out hb3)
      have HF27 := Lib.hid (blk_below HF20.out hb3)
      have HB28 := Lib.hid (HB21.out.trans (hb3.mono HB21.out.size))
      clear hb3 HB21 HF19 HF20
      have hc29 : w3.cell? ⟨w.heap.size, 0, none⟩ = some (.int .i64 a) := by rw [cell_of_row _ _ _ _ _ _ HF26.out]; rfl
      have hc30 : w3.cell? ⟨w1.heap.size, 0, none⟩ = some (.int .i64 a') := by rw [cell_of_row _ _ _ _ _ _ HF27.out]; rfl
      go_wp2_with fail
      have hr31 := fun d os => cell_regrown hc29 d os
      have hr32 := fun d os => cell_regrown hc30 d os
      refine wp_region_quiet_below (by kernel_rfl) (by kernel_rfl) ?_
      repeat (any_goals (first | go_big_quiet_step ((go_at_call 42; first | exact Calls.regrown_of (HS1.out _) | exact Calls.regrown_of (HS2.out _))) | quiet_step ((go_at_call 42; first | exact Calls.regrown_of (HS1.out _) | exact Calls.regrown_of (HS2.out _)))))
      refine wpQuiet_nil ?_
      intro w4 hw4
      have hb4 := below_anyY hw4
      clear hw4 hr31 hr32
      clear hc29 hc30
      have HF33 := Lib.hid (blk_below HF26.out hb4)
      have HF34 := Lib.hid (blk_below HF27.out hb4)
      have HB35 := Lib.hid (HB28.out.trans (hb4.mono HB28.out.size))
      clear hb4 HB28 HF26 HF27
      have hk36 : w.heap.size < w4.heap.size := lt_of_block HF33.out
      have hk37 : w1.heap.size < w4.heap.size := lt_of_block HF34.out
      have HF38 := Lib.hid (blk_alloc HF33.out (.cells #[.string D2, .string D2] 68 (0, 0)))
      have HF39 := Lib.hid (blk_alloc HF34.out (.cells #[.string D2, .string D2] 68 (0, 0)))
      have HF40 := Lib.hid (blk_new w4 (.cells #[.string D2, .string D2] 68 (0, 0)))
      have HB41 := Lib.hid (HB35.out.alloc HB35.out.size (.cells #[.string D2, .string D2] 68 (0, 0)))
      clear HB35
      have hc42 : (w4.alloc (.cells #[.string D2, .string D2] 68 (0, 0))).cell? ⟨w.heap.size, 0, none⟩ = some (.int .i64 a) := by rw [cell_of_row _ _ _ _ _ _ HF38.out]; rfl
      have hc43 : w4.cell? ⟨w.heap.size, 0, none⟩ = some (.int .i64 a) := by rw [cell_of_row _ _ _ _ _ _ HF33.out]; rfl
      have hl44 : w.heap.size < w4.heap.size := lt_of_block HF33.out
      have hl45 : ¬ w.heap.size = w4.heap.size := by omega
      go_wp2_with fail
      refine (HS1.out (w4.alloc (.cells #[.string D2, .string D2] 68 (0, 0)))).mono ?_
      rintro e w5 ⟨rfl, hb5⟩
      clear hc42 hc43 hl44 hl45
      have HF46 := Lib.hid (blk_below HF38.out hb5)
      have HF47 := Lib.hid (blk_below HF39.out hb5)
      have HF48 := Lib.hid (blk_below HF40.out hb5)
      have HB49 := Lib.hid (HB41.out.trans (hb5.mono HB41.out.size))
      clear hb5 HB41 HF38 HF33 HF39 HF34 HF40
      have hc50 : w5.cell? ⟨w4.heap.size, 0, none⟩ = some (.string D2) := by rw [cell_of_row _ _ _ _ _ _ HF48.out]; rfl
      have hc51 : w5.cell? ⟨w4.heap.size, 1, none⟩ = some (.string D2) := by rw [cell_of_row _ _ _ _ _ _ HF48.out]; rfl
      have hz52 : w5.frozen? ⟨w4.heap.size, 1, none⟩ = false := frozen_of_row _ _ _ _ _ HF48.out
      have HF53 := Lib.hid (show (w5.setCell ⟨w4.heap.size, 1, none⟩ (.string D1)).heap[w.heap.size]? = some (.cells #[.int .i64 a, .int .i64 b, .int .i64 c, .int .i64 d] 48 (0, 0)) by rw [Below.heap_setCell _ _ _ _ (by show w.heap.size ≠ w4.heap.size; omega)]; exact HF46.out)
      have HF54 := Lib.hid (show (w5.setCell ⟨w4.heap.size, 1, none⟩ (.string D1)).heap[w1.heap.size]? = some (.cells #[.int .i64 a', .int .i64 bb, .int .i64 p, .int .i64 n] 48 (0, 0)) by rw [Below.heap_setCell _ _ _ _ (by show w1.heap.size ≠ w4.heap.size; omega)]; exact HF47.out)
      have HF55 := Lib.hid (show (w5.setCell ⟨w4.heap.size, 1, none⟩ (.string D1)).heap[w4.heap.size]? = some (.cells #[.string D2, .string D1] 68 (0, 0)) by have h := heap_setCell_at (i := 1) (u := .string D1) HF48.out; exact h)
      have HB56 := Lib.hid (HB49.out.setCell (p := ⟨w4.heap.size, 1, none⟩) (by show w.heap.size ≤ w4.heap.size; omega) (.string D1))
      go_wp2_with fail
      refine (HC.out (w5.setCell ⟨w4.heap.size, 1, none⟩ (.string D1)) (HT.out.later HB56.out)).mono ?_
      rintro e w6 ⟨rfl, hb6⟩
      clear hc50 hc51 hz52
      have HF57 := Lib.hid (blk_below HF53.out hb6)
      have HF58 := Lib.hid (blk_below HF54.out hb6)
      have HF59 := Lib.hid (blk_below HF55.out hb6)
      have HB60 := Lib.hid (HB56.out.trans (hb6.mono HB56.out.size))
      clear hb6 HB56 HF53 HF54 HF55
      have hk61 : w.heap.size < w6.heap.size := lt_of_block HF57.out
      have hk62 : w1.heap.size < w6.heap.size := lt_of_block HF58.out
      have hk63 : w4.heap.size < w6.heap.size := lt_of_block HF59.out
      have HF64 := Lib.hid (blk_alloc HF57.out (.cells #[.int .i64 a', .int .i64 bb, .int .i64 p, .int .i64 n] 48 (0, 0)))
      have HF65 := Lib.hid (blk_alloc HF58.out (.cells #[.int .i64 a', .int .i64 bb, .int .i64 p, .int .i64 n] 48 (0, 0)))
      have HF66 := Lib.hid (blk_alloc HF59.out (.cells #[.int .i64 a', .int .i64 bb, .int .i64 p, .int .i64 n] 48 (0, 0)))
      have HF67 := Lib.hid (blk_new w6 (.cells #[.int .i64 a', .int .i64 bb, .int .i64 p, .int .i64 n] 48 (0, 0)))
      have HB68 := Lib.hid (HB60.out.alloc HB60.out.size (.cells #[.int .i64 a', .int .i64 bb, .int .i64 p, .int .i64 n] 48 (0, 0)))
      clear HB60
      have hc69 : (w6.alloc (.cells #[.int .i64 a', .int .i64 bb, .int .i64 p, .int .i64 n] 48 (0, 0))).cell? ⟨w1.heap.size, 0, none⟩ = some (.int .i64 a') := by rw [cell_of_row _ _ _ _ _ _ HF65.out]; rfl
      have hc70 : w6.cell? ⟨w1.heap.size, 0, none⟩ = some (.int .i64 a') := by rw [cell_of_row _ _ _ _ _ _ HF58.out]; rfl
      have hc71 : (w6.alloc (.cells #[.int .i64 a', .int .i64 bb, .int .i64 p, .int .i64 n] 48 (0, 0))).cell? ⟨w1.heap.size, 1, none⟩ = some (.int .i64 bb) := by rw [cell_of_row _ _ _ _ _ _ HF65.out]; rfl
      have hc72 : w6.cell? ⟨w1.heap.size, 1, none⟩ = some (.int .i64 bb) := by rw [cell_of_row _ _ _ _ _ _ HF58.out]; rfl
      have hc73 : (w6.alloc (.cells #[.int .i64 a', .int .i64 bb, .int .i64 p, .int .i64 n] 48 (0, 0))).cell? ⟨w1.heap.size, 2, none⟩ = some (.int .i64 p) := by rw [cell_of_row _ _ _ _ _ _ HF65.out]; rfl
      have hc74 : w6.cell? ⟨w1.heap.size, 2, none⟩ = some (.int .i64 p) := by rw [cell_of_row _ _ _ _ _ _ HF58.out]; rfl
      have hc75 : (w6.alloc (.cells #[.int .i64 a', .int .i64 bb, .int .i64 p, .int .i64 n] 48 (0, 0))).cell? ⟨w1.heap.size, 3, none⟩ = some (.int .i64 n) := by rw [cell_of_row _ _ _ _ _ _ HF65.out]; rfl
      have hc76 : w6.cell? ⟨w1.heap.size, 3, none⟩ = some (.int .i64 n) := by rw [cell_of_row _ _ _ _ _ _ HF58.out]; rfl
      have hl77 : w1.heap.size < w6.heap.size := lt_of_block HF58.out
      have hl78 : ¬ w1.heap.size = w6.heap.size := by omega
      have hc79 : (w6.alloc (.cells #[.int .i64 a', .int .i64 bb, .int .i64 p, .int .i64 n] 48 (0, 0))).cell? ⟨w.heap.size, 0, none⟩ = some (.int .i64 a) := by rw [cell_of_row _ _ _ _ _ _ HF64.out]; rfl
      have hc80 : w6.cell? ⟨w.heap.size, 0, none⟩ = some (.int .i64 a) := by rw [cell_of_row _ _ _ _ _ _ HF57.out]; rfl
      have hc81 : (w6.alloc (.cells #[.int .i64 a', .int .i64 bb, .int .i64 p, .int .i64 n] 48 (0, 0))).cell? ⟨w.heap.size, 1, none⟩ = some (.int .i64 b) := by rw [cell_of_row _ _ _ _ _ _ HF64.out]; rfl
      have hc82 : w6.cell? ⟨w.heap.size, 1, none⟩ = some (.int .i64 b) := by rw [cell_of_row _ _ _ _ _ _ HF57.out]; rfl
      have hc83 : (w6.alloc (.cells #[.int .i64 a', .int .i64 bb, .int .i64 p, .int .i64 n] 48 (0, 0))).cell? ⟨w.heap.size, 2, none⟩ = some (.int .i64 c) := by rw [cell_of_row _ _ _ _ _ _ HF64.out]; rfl
      have hc84 : w6.cell? ⟨w.heap.size, 2, none⟩ = some (.int .i64 c) := by rw [cell_of_row _ _ _ _ _ _ HF57.out]; rfl
      have hc85 : (w6.alloc (.cells #[.int .i64 a', .int .i64 bb, .int .i64 p, .int .i64 n] 48 (0, 0))).cell? ⟨w.heap.size, 3, none⟩ = some (.int .i64 d) := by rw [cell_of_row _ _ _ _ _ _ HF64.out]; rfl
      have hc86 : w6.cell? ⟨w.heap.size, 3, none⟩ = some (.int .i64 d) := by rw [cell_of_row _ _ _ _ _ _ HF57.out]; rfl
      have hl87 : w.heap.size < w6.heap.size := lt_of_block HF57.out
      have hl88 : ¬ w.heap.size = w6.heap.size := by omega
      go_wp2_with fail
      refine (HA.out (w6.alloc (.cells #[.int .i64 a', .int .i64 bb, .int .i64 p, .int .i64 n] 48 (0, 0))) (HT.out.later HB68.out)).mono ?_
      rintro e w7 ⟨rfl, hb7⟩
      clear hc69 hc70 hc71 hc72 hc73 hc74 hc75 hc76 hl77 hl78 hc79 hc80 hc81 hc82 hc83 hc84 hc85 hc86 hl87 hl88
      have HF89 := Lib.hid (blk_below HF64.out hb7)
      have HF90 := Lib.hid (blk_below HF65.out hb7)
      have HF91 := Lib.hid (blk_below HF66.out hb7)
      have HF92 := Lib.hid (blk_below HF67.out hb7)
      have HB93 := Lib.hid (HB68.out.trans (hb7.mono HB68.out.size))
      clear hb7 HB68 HF64 HF57 HF65 HF58 HF66 HF59 HF67
      go_wp2_with fail
      go_ret
      exact ⟨rfl, HB93.out⟩
    | false =>
      rcases b3 with ⟨rfl, rfl, rfl, rfl, rfl⟩ | ⟨y1, y2, rfl⟩
      · have b3 := True.intro
        have hb1 : (bst (0, 0, 0, 0) (a, b, c, d) 1).1 < a := by
          rw [bst_one]
          split
          · dsimp only
            rename_i g
            have := g.1
            dsimp only at this
            omega
          · dsimp only; omega
        have HC := Lib.hid (fun (W : World) (h : Tab W) => ch_of F3 F1 (bst_y (x := (0, 0, 0, 0)) m1 hb1) (by omega) W h)
        rw [show a % 2 = 1 from m1] at HS1
        rw [show a' % 2 = 0 from m2] at HS2
        have q1 : (a' == a) = false := by simp; omega
        have q2 : (a == a') = false := by simp; omega
        have HAA := Lib.hid ha'
        have n1 : 0 ≤ a' := by omega
        have n2 : a' ≤ 4294967295 := by omega
        clear F1 F2 F3 hb1 m1 m2 ha' b3
        have HB1 := Lib.hid (Below.refl w.heap.size w)
        go_enter Tryd.func9, Tryd.ntmps9
        go_wp2_with fail
        have HF2 := Lib.hid (blk_new w (.cells #[.int .i64 a, .int .i64 b, .int .i64 c, .int .i64 d] 48 (0, 0)))
        have HB3 := Lib.hid (HB1.out.alloc HB1.out.size (.cells #[.int .i64 a, .int .i64 b, .int .i64 c, .int .i64 d] 48 (0, 0)))
        clear HB1
        refine (HN.out (w.alloc (.cells #[.int .i64 a, .int .i64 b, .int .i64 c, .int .i64 d] 48 (0, 0)))).mono ?_
        rintro e w1 ⟨rfl, hb1⟩
        have HF4 := Lib.hid (blk_below HF2.out hb1)
        have HB5 := Lib.hid (HB3.out.trans (hb1.mono HB3.out.size))
        clear hb1 HB3 HF2
        have HF6 := Lib.hid (blk_alloc HF4.out (.cells #[.int .i64 a', .int .i64 bb, .int .i64 p, .int .i64 n] 48 (0, 0)))
        have HF7 := Lib.hid (blk_new w1 (.cells #[.int .i64 a', .int .i64 bb, .int .i64 p, .int .i64 n] 48 (0, 0)))
        have HB8 := Lib.hid (HB5.out.alloc HB5.out.size (.cells #[.int .i64 a', .int .i64 bb, .int .i64 p, .int .i64 n] 48 (0, 0)))
        clear HB5
        have hc9 : (w1.alloc (.cells #[.int .i64 a', .int .i64 bb, .int .i64 p, .int .i64 n] 48 (0, 0))).cell? ⟨w.heap.size, 0, none⟩ = some (.int .i64 a) := by rw [cell_of_row _ _ _ _ _ _ HF6.out]; rfl
        have hc10 : w1.cell? ⟨w.heap.size, 0, none⟩ = some (.int .i64 a) := by rw [cell_of_row _ _ _ _ _ _ HF4.out]; rfl
        have hc11 : (w1.alloc (.cells #[.int .i64 a', .int .i64 bb, .int .i64 p, .int .i64 n] 48 (0, 0))).cell? ⟨w.heap.size, 1, none⟩ = some (.int .i64 b) := by rw [cell_of_row _ _ _ _ _ _ HF6.out]; rfl
        have hc12 : w1.cell? ⟨w.heap.size, 1, none⟩ = some (.int .i64 b) := by rw [cell_of_row _ _ _ _ _ _ HF4.out]; rfl
        have hc13 : (w1.alloc (.cells #[.int .i64 a', .int .i64 bb, .int .i64 p, .int .i64 n] 48 (0, 0))).cell? ⟨w.heap.size, 2, none⟩ = some (.int .i64 c) := by rw [cell_of_row _ _ _ _ _ _ HF6.out]; rfl
        have hc14 : w1.cell? ⟨w.heap.size, 2, none⟩ = some (.int .i64 c) := by rw [cell_of_row _ _ _ _ _ _ HF4.out]; rfl
        have hc15 : (w1.alloc (.cells #[.int .i64 a', .int .i64 bb, .int .i64 p, .int .i64 n] 48 (0, 0))).cell? ⟨w.heap.size, 3, none⟩ = some (.int .i64 d) := by rw [cell_of_row _ _ _ _ _ _ HF6.out]; rfl
        have hc16 : w1.cell? ⟨w.heap.size, 3, none⟩ = some (.int .i64 d) := by rw [cell_of_row _ _ _ _ _ _ HF4.out]; rfl
        have hl17 : w.heap.size < w1.heap.size := lt_of_block HF4.out
        have hl18 : ¬ w.heap.size = w1.heap.size := by omega
        go_wp2_with fail
        refine (HP1.out (w1.alloc (.cells #[.int .i64 a', .int .i64 bb, .int .i64 p, .int .i64 n] 48 (0, 0))) (HT.out.later HB8.out)).mono ?_
        rintro e w2 ⟨rfl, hb2⟩
        clear hc9 hc10 hc11 hc12 hc13 hc14 hc15 hc16 hl17 hl18
        have HF19 := Lib.hid (blk_below HF6.out hb2)
        have HF20 := Lib.hid (blk_below HF7.out hb2)
        have HB21 := Lib.hid (HB8.out.trans (hb2.mono HB8.out.size))
        clear hb2 HB8 HF6 HF4 HF7
        have hc22 : w2.cell? ⟨w1.heap.size, 0, none⟩ = some (.int .i64 a') := by rw [cell_of_row _ _ _ _ _ _ HF20.out]; rfl
        have hc23 : w2.cell? ⟨w1.heap.size, 1, none⟩ = some (.int .i64 bb) := by rw [cell_of_row _ _ _ _ _ _ HF20.out]; rfl
        have hc24 : w2.cell? ⟨w1.heap.size, 2, none⟩ = some (.int .i64 p) := by rw [cell_of_row _ _ _ _ _ _ HF20.out]; rfl
        have hc25 : w2.cell? ⟨w1.heap.size, 3, none⟩ = some (.int .i64 n) := by rw [cell_of_row _ _ _ _ _ _ HF20.out]; rfl
        go_wp2_with fail
        refine (HP2.out w2 (HT.out.later HB21.out)).mono ?_
        rintro e w3 ⟨rfl, hb3⟩
        clear hc22 hc23 hc24 hc25
        have HF26 := Lib.hid (blk_below HF19.out hb3)
        have HF27 := Lib.hid (blk_below HF20.out hb3)
        have HB28 := Lib.hid (HB21.out.trans (hb3.mono HB21.out.size))
        clear hb3 HB21 HF19 HF20
        have hc29 : w3.cell? ⟨w.heap.size, 0, none⟩ = some (.int .i64 a) := by rw [cell_of_row _ _ _ _ _ _ HF26.out]; rfl
        have hc30 : w3.cell? ⟨w1.heap.size, 0, none⟩ = some (.int .i64 a') := by rw [cell_of_row _ _ _ _ _ _ HF27.out]; rfl
        go_wp2_with fail
        have hr31 := fun d os => cell_regrown hc29 d os
        have hr32 := fun d os => cell_regrown hc30 d os
        refine wp_region_quiet_below (by kernel_rfl) (by kernel_rfl) ?_
        repeat (any_goals (first | go_big_quiet_step ((go_at_call 42; first | exact Calls.regrown_of (HS1.out _) | exact Calls.regrown_of (HS2.out _))) | quiet_step ((go_at_call 42; first | exact Calls.regrown_of (HS1.out _) | exact Calls.regrown_of (HS2.out _)))))
        refine wpQuiet_nil ?_
        intro w4 hw4
        have hb4 := below_anyY hw4
        clear hw4 hr31 hr32
        clear hc29 hc30
        have HF33 := Lib.hid (blk_below HF26.out hb4)
        have HF34 := Lib.hid (blk_below HF27.out hb4)
        have HB35 := Lib.hid (HB28.out.trans (hb4.mono HB28.out.size))
        clear hb4 HB28 HF26 HF27
        go_wp2_with fail
        refine (HTK.out w4 (HT.out.later HB35.out)).mono ?_
        rintro e w5 ⟨rfl, hb5⟩
        have HF36 := Lib.hid (blk_below HF33.out hb5)
        have HF37 := Lib.hid (blk_below HF34.out hb5)
        have HB38 := Lib.hid (HB35.out.trans (hb5.mono HB35.out.size))
        clear hb5 HB35 HF33 HF34
        have hk39 : w.heap.size < w5.heap.size := lt_of_block HF36.out
        have hk40 : w1.heap.size < w5.heap.size := lt_of_block HF37.out
        have HF41 := Lib.hid (blk_alloc HF36.out (.cells #[.int .i64 0, .int .i64 0, .int .i64 0, .int .i64 0] 48 (0, 0)))
        have HF42 := Lib.hid (blk_alloc HF37.out (.cells #[.int .i64 0, .int .i64 0, .int .i64 0, .int .i64 0] 48 (0, 0)))
        have HF43 := Lib.hid (blk_new w5 (.cells #[.int .i64 0, .int .i64 0, .int .i64 0, .int .i64 0] 48 (0, 0)))
        have HB44 := Lib.hid (HB38.out.alloc HB38.out.size (.cells #[.int .i64 0, .int .i64 0, .int .i64 0, .int .i64 0] 48 (0, 0)))
        clear HB38
        have hc45 : (w5.alloc (.cells #[.int .i64 0, .int .i64 0, .int .i64 0, .int .i64 0] 48 (0, 0))).cell? ⟨w.heap.size, 0, none⟩ = some (.int .i64 a) := by rw [cell_of_row _ _ _ _ _ _ HF41.out]; rfl
        have hc46 : w5.cell? ⟨w.heap.size, 0, none⟩ = some (.int .i64 a) := by rw [cell_of_row _ _ _ _ _ _ HF36.out]; rfl
        have hl47 : w.heap.size < w5.heap.size := lt_of_block HF36.out
        have hl48 : ¬ w.heap.size = w5.heap.size := by omega
        have HF49 := Lib.hid (blk_alloc HF41.out (.cells #[.string S, .string S] 68 (0, 0)))
        clear HF41
        have HF50 := Lib.hid (blk_alloc HF42.out (.cells #[.string S, .string S] 68 (0, 0)))
        clear HF42
        have HF51 := Lib.hid (blk_alloc HF43.out (.cells #[.string S, .string S] 68 (0, 0)))
        clear HF43
        have HF52 : Hid (((w5.alloc (.cells #[.int .i64 0, .int .i64 0, .int .i64 0, .int .i64 0] 48 (0, 0))).alloc (.cells #[.string S, .string S] 68 (0, 0))).heap[w5.heap.size + 1]? = some (.cells #[.string S, .string S] 68 (0, 0))) := Lib.hid (blk_newN (W := (w5.alloc (.cells #[.int .i64 0, .int .i64 0, .int .i64 0, .int .i64 0] 48 (0, 0)))) (o := (.cells #[.string S, .string S] 68 (0, 0))) (by simp))
        have HB53 := Lib.hid (HB44.out.alloc (by have := HB44.out.size; simp at this ⊢; omega) (.cells #[.string S, .string S] 68 (0, 0)))
        clear HB44
        have hc54 : ((w5.alloc (.cells #[.int .i64 0, .int .i64 0, .int .i64 0, .int .i64 0] 48 (0, 0))).alloc (.cells #[.string S, .string S] 68 (0, 0))).cell? ⟨w.heap.size, 0, none⟩ = some (.int .i64 a) := by rw [cell_of_row _ _ _ _ _ _ HF49.out]; rfl
        have hc55 : w5.cell? ⟨w.heap.size, 0, none⟩ = some (.int .i64 a) := by rw [cell_of_row _ _ _ _ _ _ HF36.out]; rfl
        have hl56 : w.heap.size < w5.heap.size := lt_of_block HF36.out
        have hl57 : ¬ w.heap.size = w5.heap.size := by omega
        go_wp2_with fail
        refine (HS1.out ((w5.alloc (.cells #[.int .i64 0, .int .i64 0, .int .i64 0, .int .i64 0] 48 (0, 0))).alloc (.cells #[.string S, .string S] 68 (0, 0)))).mono ?_
        rintro e w6 ⟨rfl, hb6⟩
        clear hc45 hc46 hl47 hl48 hc54 hc55 hl56 hl57
        have HF58 := Lib.hid (blk_below HF49.out hb6)
        have HF59 := Lib.hid (blk_below HF50.out hb6)
        have HF60 := Lib.hid (blk_below HF51.out hb6)
        have HF61 := Lib.hid (blk_below HF52.out hb6)
        have HB62 := Lib.hid (HB53.out.trans (hb6.mono HB53.out.size))
        clear hb6 HB53 HF49 HF36 HF50 HF37 HF51 HF52
        have hc63 : w6.cell? ⟨w5.heap.size + 1, 0, none⟩ = some (.string S) := by rw [cell_of_row _ _ _ _ _ _ HF61.out]; rfl
        have hc64 : w6.cell? ⟨w5.heap.size + 1, 1, none⟩ = some (.string S) := by rw [cell_of_row _ _ _ _ _ _ HF61.out]; rfl
        have hz65 : w6.frozen? ⟨w5.heap.size + 1, 1, none⟩ = false := frozen_of_row _ _ _ _ _ HF61.out
        have HF66 := Lib.hid (show (w6.setCell ⟨w5.heap.size + 1, 1, none⟩ (.string D1)).heap[w.heap.size]? = some (.cells #[.int .i64 a, .int .i64 b, .int .i64 c, .int .i64 d] 48 (0, 0)) by rw [Below.heap_setCell _ _ _ _ (by show w.heap.size ≠ w5.heap.size + 1; omega)]; exact HF58.out)
        have HF67 := Lib.hid (show (w6.setCell ⟨w5.heap.size + 1, 1, none⟩ (.string D1)).heap[w1.heap.size]? = some (.cells #[.int .i64 a', .int .i64 bb, .int .i64 p, .int .i64 n] 48 (0, 0)) by rw [Below.heap_setCell _ _ _ _ (by show w1.heap.size ≠ w5.heap.size + 1; omega)]; exact HF59.out)
        have HF68 := Lib.hid (show (w6.setCell ⟨w5.heap.size + 1, 1, none⟩ (.string D1)).heap[w5.heap.size]? = some (.cells #[.int .i64 0, .int .i64 0, .int .i64 0, .int .i64 0] 48 (0, 0)) by rw [Below.heap_setCell _ _ _ _ (by show w5.heap.size ≠ w5.heap.size + 1; omega)]; exact HF60.out)
        have HF69 := Lib.hid (show (w6.setCell ⟨w5.heap.size + 1, 1, none⟩ (.string D1)).heap[w5.heap.size + 1]? = some (.cells #[.string S, .string D1] 68 (0, 0)) by have h := heap_setCell_at (i := 1) (u := .string D1) HF61.out; exact h)
        have HB70 := Lib.hid (HB62.out.setCell (p := ⟨w5.heap.size + 1, 1, none⟩) (by show w.heap.size ≤ w5.heap.size + 1; omega) (.string D1))
        go_wp2_with fail
        refine (HC.out (w6.setCell ⟨w5.heap.size + 1, 1, none⟩ (.string D1)) (HT.out.later HB70.out)).mono ?_
        rintro e w7 ⟨rfl, hb7⟩
        clear hc63 hc64 hz65
        have HF71 := Lib.hid (blk_below HF66.out hb7)
        have HF72 := Lib.hid (blk_below HF67.out hb7)
        have HF73 := Lib.hid (blk_below HF68.out hb7)
        have HF74 := Lib.hid (blk_below HF69.out hb7)
        have HB75 := Lib.hid (HB70.out.trans (hb7.mono HB70.out.size))
        clear hb7 HB70 HF66 HF67 HF68 HF69
        have hk76 : w.heap.size < w7.heap.size := lt_of_block HF71.out
        have hk77 : w1.heap.size < w7.heap.size := lt_of_block HF72.out
        have hk78 : w5.heap.size < w7.heap.size := lt_of_block HF73.out
        have hk79 : w5.heap.size + 1 < w7.heap.size := lt_of_block HF74.out
        have HF80 := Lib.hid (blk_alloc HF71.out (.cells #[.int .i64 a, .int .i64 b, .int .i64 c, .int .i64 d] 48 (0, 0)))
        have HF81 := Lib.hid (blk_alloc HF72.out (.cells #[.int .i64 a, .int .i64 b, .int .i64 c, .int .i64 d] 48 (0, 0)))
        have HF82 := Lib.hid (blk_alloc HF73.out (.cells #[.int .i64 a, .int .i64 b, .int .i64 c, .int .i64 d] 48 (0, 0)))
        have HF83 := Lib.hid (blk_alloc HF74.out (.cells #[.int .i64 a, .int .i64 b, .int .i64 c, .int .i64 d] 48 (0, 0)))
        have HF84 := Lib.hid (blk_new w7 (.cells #[.int .i64 a, .int .i64 b, .int .i64 c, .int .i64 d] 48 (0, 0)))
        have HB85 := Lib.hid (HB75.out.alloc HB75.out.size (.cells #[.int .i64 a, .int .i64 b, .int .i64 c, .int .i64 d] 48 (0, 0)))
        clear HB75
        have hc86 : (w7.alloc (.cells #[.int .i64 a, .int .i64 b, .int .i64 c, .int .i64 d] 48 (0, 0))).cell? ⟨w1.heap.size, 0, none⟩ = some (.int .i64 a') := by rw [cell_of_row _ _ _ _ _ _ HF81.out]; rfl
        have hc87 : w7.cell? ⟨w1.heap.size, 0, none⟩ = some (.int .i64 a') := by rw [cell_of_row _ _ _ _ _ _ HF72.out]; rfl
        have hc88 : (w7.alloc (.cells #[.int .i64 a, .int .i64 b, .int .i64 c, .int .i64 d] 48 (0, 0))).cell? ⟨w1.heap.size, 1, none⟩ = some (.int .i64 bb) := by rw [cell_of_row _ _ _ _ _ _ HF81.out]; rfl
        have hc89 : w7.cell? ⟨w1.heap.size, 1, none⟩ = some (.int .i64 bb) := by rw [cell_of_row _ _ _ _ _ _ HF72.out]; rfl
        have hc90 : (w7.alloc (.cells #[.int .i64 a, .int .i64 b, .int .i64 c, .int .i64 d] 48 (0, 0))).cell? ⟨w1.heap.size, 2, none⟩ = some (.int .i64 p) := by rw [cell_of_row _ _ _ _ _ _ HF81.out]; rfl
        have hc91 : w7.cell? ⟨w1.heap.size, 2, none⟩ = some (.int .i64 p) := by rw [cell_of_row _ _ _ _ _ _ HF72.out]; rfl
        have hc92 : (w7.alloc (.cells #[.int .i64 a, .int .i64 b, .int .i64 c, .int .i64 d] 48 (0, 0))).cell? ⟨w1.heap.size, 3, none⟩ = some (.int .i64 n) := by rw [cell_of_row _ _ _ _ _ _ HF81.out]; rfl
        have hc93 : w7.cell? ⟨w1.heap.size, 3, none⟩ = some (.int .i64 n) := by rw [cell_of_row _ _ _ _ _ _ HF72.out]; rfl
        have hl94 : w1.heap.size < w7.heap.size := lt_of_block HF72.out
        have hl95 : ¬ w1.heap.size = w7.heap.size := by omega
        have hc96 : (w7.alloc (.cells #[.int .i64 a, .int .i64 b, .int .i64 c, .int .i64 d] 48 (0, 0))).cell? ⟨w.heap.size, 0, none⟩ = some (.int .i64 a) := by rw [cell_of_row _ _ _ _ _ _ HF80.out]; rfl
        have hc97 : w7.cell? ⟨w.heap.size, 0, none⟩ = some (.int .i64 a) := by rw [cell_of_row _ _ _ _ _ _ HF71.out]; rfl
        have hc98 : (w7.alloc (.cells #[.int .i64 a, .int .i64 b, .int .i64 c, .int .i64 d] 48 (0, 0))).cell? ⟨w.heap.size, 1, none⟩ = some (.int .i64 b) := by rw [cell_of_row _ _ _ _ _ _ HF80.out]; rfl
        have hc99 : w7.cell? ⟨w.heap.size, 1, none⟩ = some (.int .i64 b) := by rw [cell_of_row _ _ _ _ _ _ HF71.out]; rfl
        have hc100 : (w7.alloc (.cells #[.int .i64 a, .int .i64 b, .int .i64 c, .int .i64 d] 48 (0, 0))).cell? ⟨w.heap.size, 2, none⟩ = some (.int .i64 c) := by rw [cell_of_row _ _ _ _ _ _ HF80.out]; rfl
        have hc101 : w7.cell? ⟨w.heap.size, 2, none⟩ = some (.int .i64 c) := by rw [cell_of_row _ _ _ _ _ _ HF71.out]; rfl
        have hc102 : (w7.alloc (.cells #[.int .i64 a, .int .i64 b, .int .i64 c, .int .i64 d] 48 (0, 0))).cell? ⟨w.heap.size, 3, none⟩ = some (.int .i64 d) := by rw [cell_of_row _ _ _ _ _ _ HF80.out]; rfl
        have hc103 : w7.cell? ⟨w.heap.size, 3, none⟩ = some (.int .i64 d) := by rw [cell_of_row _ _ _ _ _ _ HF71.out]; rfl
        have hl104 : w.heap.size < w7.heap.size := lt_of_block HF71.out
        have hl105 : ¬ w.heap.size = w7.heap.size := by omega
        go_wp2_with fail
        refine (HA.out (w7.alloc (.cells #[.int .i64 a, .int .i64 b, .int .i64 c, .int .i64 d] 48 (0, 0))) (HT.out.later HB85.out)).mono ?_
        rintro e w8 ⟨rfl, hb8⟩
        clear hc86 hc87 hc88 hc89 hc90 hc91 hc92 hc93 hl94 hl95 hc96 hc97 hc98 hc99 hc100 hc101 hc102 hc103 hl104 hl105
        have HF106 := Lib.hid (blk_below HF80.out hb8)
        have HF107 := Lib.hid (blk_below HF81.out hb8)
        have HF108 := Lib.hid (blk_below HF82.out hb8)
        have HF109 := Lib.hid (blk_below HF83.out hb8)
        have HF110 := Lib.hid (blk_below HF84.out hb8)
        have HB111 := Lib.hid (HB85.out.trans (hb8.mono HB85.out.size))
        clear hb8 HB85 HF80 HF71 HF81 HF72 HF82 HF73 HF83 HF74 HF84
        go_wp2_with fail
        go_ret
        exact ⟨rfl, HB111.out⟩
      · have b3 := True.intro
        by_cases hy : a < a2
        · rw [show a % 2 = 1 from m1] at HS1
          rw [show a' % 2 = 0 from m2] at HS2
          have q1 : (a' == a) = false := by simp; omega
          have q2 : (a == a') = false := by simp; omega
          have HAA := Lib.hid ha'
          have n1 : 0 ≤ a' := by omega
          have n2 : a' ≤ 4294967295 := by omega
          have hyo : decide (a < a2) = true := decide_eq_true (by omega)
          clear F1 F2 F3  m1 m2 ha' b3 hy
          have HB1 := Lib.hid (Below.refl w.heap.size w)
          go_enter Tryd.func9, Tryd.ntmps9
          go_wp2_with fail
          have HF2 := Lib.hid (blk_new w (.cells #[.int .i64 a, .int .i64 b, .int .i64 c, .int .i64 d] 48 (0, 0)))
          have HB3 := Lib.hid (HB1.out.alloc HB1.out.size (.cells #[.int .i64 a, .int .i64 b, .int .i64 c, .int .i64 d] 48 (0, 0)))
          clear HB1
          refine (HN.out (w.alloc (.cells #[.int .i64 a, .int .i64 b, .int .i64 c, .int .i64 d] 48 (0, 0)))).mono ?_
          rintro e w1 ⟨rfl, hb1⟩
          have HF4 := Lib.hid (blk_below HF2.out hb1)
          have HB5 := Lib.hid (HB3.out.trans (hb1.mono HB3.out.size))
          clear hb1 HB3 HF2
          have HF6 := Lib.hid (blk_alloc HF4.out (.cells #[.int .i64 a', .int .i64 bb, .int .i64 p, .int .i64 n] 48 (0, 0)))
          have HF7 := Lib.hid (blk_new w1 (.cells #[.int .i64 a', .int .i64 bb, .int .i64 p, .int .i64 n] 48 (0, 0)))
          have HB8 := Lib.hid (HB5.out.alloc HB5.out.size (.cells #[.int .i64 a', .int .i64 bb, .int .i64 p, .int .i64 n] 48 (0, 0)))
          clear HB5
          have hc9 : (w1.alloc (.cells #[.int .i64 a', .int .i64 bb, .int .i64 p, .int .i64 n] 48 (0, 0))).cell? ⟨w.heap.size, 0, none⟩ = some (.int .i64 a) := by rw [cell_of_row _ _ _ _ _ _ HF6.out]; rfl
          have hc10 : w1.cell? ⟨w.heap.size, 0, none⟩ = some (.int .i64 a) := by rw [cell_of_row _ _ _ _ _ _ HF4.out]; rfl
          have hc11 : (w1.alloc (.cells #[.int .i64 a', .int .i64 bb, .int .i64 p, .int .i64 n] 48 (0, 0))).cell? ⟨w.heap.size, 1, none⟩ = some (.int .i64 b) := by rw [cell_of_row _ _ _ _ _ _ HF6.out]; rfl
          have hc12 : w1.cell? ⟨w.heap.size, 1, none⟩ = some (.int .i64 b) := by rw [cell_of_row _ _ _ _ _ _ HF4.out]; rfl
          have hc13 : (w1.alloc (.cells #[.int .i64 a', .int .i64 bb, .int .i64 p, .int .i64 n] 48 (0, 0))).cell? ⟨w.heap.size, 2, none⟩ = some (.int .i64 c) := by rw [cell_of_row _ _ _ _ _ _ HF6.out]; rfl
          have hc14 : w1.cell? ⟨w.heap.size, 2, none⟩ = some (.int .i64 c) := by rw [cell_of_row _ _ _ _ _ _ HF4.out]; rfl
          have hc15 : (w1.alloc (.cells #[.int .i64 a', .int .i64 bb, .int .i64 p, .int .i64 n] 48 (0, 0))).cell? ⟨w.heap.size, 3, none⟩ = some (.int .i64 d) := by rw [cell_of_row _ _ _ _ _ _ HF6.out]; rfl
          have hc16 : w1.cell? ⟨w.heap.size, 3, none⟩ = some (.int .i64 d) := by rw [cell_of_row _ _ _ _ _ _ HF4.out]; rfl
          have hl17 : w.heap.size < w1.heap.size := lt_of_block HF4.out
          have hl18 : ¬ w.heap.size = w1.heap.size := by omega
          go_wp2_with fail
          refine (HP1.out (w1.alloc (.cells #[.int .i64 a', .int .i64 bb, .int .i64 p, .int .i64 n] 48 (0, 0))) (HT.out.later HB8.out)).mono ?_
          rintro e w2 ⟨rfl, hb2⟩
          clear hc9 hc10 hc11 hc12 hc13 hc14 hc15 hc16 hl17 hl18
          have HF19 := Lib.hid (blk_below HF6.out hb2)
          have HF20 := Lib.hid (blk_below HF7.out hb2)
          have HB21 := Lib.hid (HB8.out.trans (hb2.mono HB8.out.size))
          clear hb2 HB8 HF6 HF4 HF7
          have hc22 : w2.cell? ⟨w1.heap.size, 0, none⟩ = some (.int .i64 a') := by rw [cell_of_row _ _ _ _ _ _ HF20.out]; rfl
          have hc23 : w2.cell? ⟨w1.heap.size, 1, none⟩ = some (.int .i64 bb) := by rw [cell_of_row _ _ _ _ _ _ HF20.out]; rfl
          have hc24 : w2.cell? ⟨w1.heap.size, 2, none⟩ = some (.int .i64 p) := by rw [cell_of_row _ _ _ _ _ _ HF20.out]; rfl
          have hc25 : w2.cell? ⟨w1.heap.size, 3, none⟩ = some (.int .i64 n) := by rw [cell_of_row _ _ _ _ _ _ HF20.out]; rfl
          go_wp2_with fail
          refine (HP2.out w2 (HT.out.later HB21.out)).mono ?_
          rintro e w3 ⟨rfl, hb3⟩
          clear hc22 hc23 hc24 hc25
          have HF26 := Lib.hid (blk_below HF19.out hb3)
          have HF27 := Lib.hid (blk_below HF20.out hb3)
          have HB28 := Lib.hid (HB21.out.trans (hb3.mono HB21.out.size))
          clear hb3 HB21 HF19 HF20
          have hc29 : w3.cell? ⟨w.heap.size, 0, none⟩ = some (.int .i64 a) := by rw [cell_of_row _ _ _ _ _ _ HF26.out]; rfl
          have hc30 : w3.cell? ⟨w1.heap.size, 0, none⟩ = some (.int .i64 a') := by rw [cell_of_row _ _ _ _ _ _ HF27.out]; rfl
          go_wp2_with fail
          have hr31 := fun d os => cell_regrown hc29 d os
          have hr32 := fun d os => cell_regrown hc30 d os
          refine wp_region_quiet_below (by kernel_rfl) (by kernel_rfl) ?_
          repeat (any_goals (first | go_big_quiet_step ((go_at_call 42; first | exact Calls.regrown_of (HS1.out _) | exact Calls.regrown_of (HS2.out _))) | quiet_step ((go_at_call 42; first | exact Calls.regrown_of (HS1.out _) | exact Calls.regrown_of (HS2.out _)))))
          refine wpQuiet_nil ?_
          intro w4 hw4
          have hb4 := below_anyY hw4
          clear hw4 hr31 hr32
          clear hc29 hc30
          have HF33 := Lib.hid (blk_below HF26.out hb4)
          have HF34 := Lib.hid (blk_below HF27.out hb4)
          have HB35 := Lib.hid (HB28.out.trans (hb4.mono HB28.out.size))
          clear hb4 HB28 HF26 HF27
          go_wp2_with fail
          refine (HTK.out w4 (HT.out.later HB35.out)).mono ?_
          rintro e w5 ⟨rfl, hb5⟩
          have HF36 := Lib.hid (blk_below HF33.out hb5)
          have HF37 := Lib.hid (blk_below HF34.out hb5)
          have HB38 := Lib.hid (HB35.out.trans (hb5.mono HB35.out.size))
          clear hb5 HB35 HF33 HF34
          have hk39 : w.heap.size < w5.heap.size := lt_of_block HF36.out
          have hk40 : w1.heap.size < w5.heap.size := lt_of_block HF37.out
          have HF41 := Lib.hid (blk_alloc HF36.out (.cells #[.int .i64 a2, .int .i64 b2', .int .i64 c2, .int .i64 d2] 48 (0, 0)))
          have HF42 := Lib.hid (blk_alloc HF37.out (.cells #[.int .i64 a2, .int .i64 b2', .int .i64 c2, .int .i64 d2] 48 (0, 0)))
          have HF43 := Lib.hid (blk_new w5 (.cells #[.int .i64 a2, .int .i64 b2', .int .i64 c2, .int .i64 d2] 48 (0, 0)))
          have HB44 := Lib.hid (HB38.out.alloc HB38.out.size (.cells #[.int .i64 a2, .int .i64 b2', .int .i64 c2, .int .i64 d2] 48 (0, 0)))
          clear HB38
          have hc45 : (w5.alloc (.cells #[.int .i64 a2, .int .i64 b2', .int .i64 c2, .int .i64 d2] 48 (0, 0))).cell? ⟨w.heap.size, 0, none⟩ = some (.int .i64 a) := by rw [cell_of_row _ _ _ _ _ _ HF41.out]; rfl
          have hc46 : w5.cell? ⟨w.heap.size, 0, none⟩ = some (.int .i64 a) := by rw [cell_of_row _ _ _ _ _ _ HF36.out]; rfl
          have hl47 : w.heap.size < w5.heap.size := lt_of_block HF36.out
          have hl48 : ¬ w.heap.size = w5.heap.size := by omega
          go_wp2_with fail
          refine (HA.out (w5.alloc (.cells #[.int .i64 a2, .int .i64 b2', .int .i64 c2, .int .i64 d2] 48 (0, 0))) (HT.out.later HB44.out)).mono ?_
          rintro e w6 ⟨rfl, hb6⟩
          clear hc45 hc46 hl47 hl48
          have HF49 := Lib.hid (blk_below HF41.out hb6)
          have HF50 := Lib.hid (blk_below HF42.out hb6)
          have HF51 := Lib.hid (blk_below HF43.out hb6)
          have HB52 := Lib.hid (HB44.out.trans (hb6.mono HB44.out.size))
          clear hb6 HB44 HF41 HF36 HF42 HF37 HF43
          go_wp2_with fail
          go_ret
          exact ⟨rfl, HB52.out⟩
        · have hb1 : (bst (a2, b2', c2, d2) (a, b, c, d) 1).1 < a := by
            rw [bst_one]
            split
            · dsimp only
              rename_i g
              have := g.1
              dsimp only at this
              omega
            · dsimp only; omega
          have HC := Lib.hid (fun (W : World) (h : Tab W) => ch_of F3 F1 (bst_y (x := (a2, b2', c2, d2)) m1 hb1) (by omega) W h)
          rw [show a % 2 = 1 from m1] at HS1
          rw [show a' % 2 = 0 from m2] at HS2
          have q1 : (a' == a) = false := by simp; omega
          have q2 : (a == a') = false := by simp; omega
          have HAA := Lib.hid ha'
          have n1 : 0 ≤ a' := by omega
          have n2 : a' ≤ 4294967295 := by omega
          have hyo : decide (a < a2) = false := decide_eq_false (by omega)
          clear F1 F2 F3 hb1 m1 m2 ha' b3 hy
          have HB1 := Lib.hid (Below.refl w.heap.size w)
          go_enter Tryd.func9, Tryd.ntmps9
          go_wp2_with fail
          have HF2 := Lib.hid (blk_new w (.cells #[.int .i64 a, .int .i64 b, .int .i64 c, .int .i64 d] 48 (0, 0)))
          have HB3 := Lib.hid (HB1.out.alloc HB1.out.size (.cells #[.int .i64 a, .int .i64 b, .int .i64 c, .int .i64 d] 48 (0, 0)))
          clear HB1
          refine (HN.out (w.alloc (.cells #[.int .i64 a, .int .i64 b, .int .i64 c, .int .i64 d] 48 (0, 0)))).mono ?_
          rintro e w1 ⟨rfl, hb1⟩
          have HF4 := Lib.hid (blk_below HF2.out hb1)
          have HB5 := Lib.hid (HB3.out.trans (hb1.mono HB3.out.size))
          clear hb1 HB3 HF2
          have HF6 := Lib.hid (blk_alloc HF4.out (.cells #[.int .i64 a', .int .i64 bb, .int .i64 p, .int .i64 n] 48 (0, 0)))
          have HF7 := Lib.hid (blk_new w1 (.cells #[.int .i64 a', .int .i64 bb, .int .i64 p, .int .i64 n] 48 (0, 0)))
          have HB8 := Lib.hid (HB5.out.alloc HB5.out.size (.cells #[.int .i64 a', .int .i64 bb, .int .i64 p, .int .i64 n] 48 (0, 0)))
          clear HB5
          have hc9 : (w1.alloc (.cells #[.int .i64 a', .int .i64 bb, .int .i64 p, .int .i64 n] 48 (0, 0))).cell? ⟨w.heap.size, 0, none⟩ = some (.int .i64 a) := by rw [cell_of_row _ _ _ _ _ _ HF6.out]; rfl
          have hc10 : w1.cell? ⟨w.heap.size, 0, none⟩ = some (.int .i64 a) := by rw [cell_of_row _ _ _ _ _ _ HF4.out]; rfl
          have hc11 : (w1.alloc (.cells #[.int .i64 a', .int .i64 bb, .int .i64 p, .int .i64 n] 48 (0, 0))).cell? ⟨w.heap.size, 1, none⟩ = some (.int .i64 b) := by rw [cell_of_row _ _ _ _ _ _ HF6.out]; rfl
          have hc12 : w1.cell? ⟨w.heap.size, 1, none⟩ = some (.int .i64 b) := by rw [cell_of_row _ _ _ _ _ _ HF4.out]; rfl
          have hc13 : (w1.alloc (.cells #[.int .i64 a', .int .i64 bb, .int .i64 p, .int .i64 n] 48 (0, 0))).cell? ⟨w.heap.size, 2, none⟩ = some (.int .i64 c) := by rw [cell_of_row _ _ _ _ _ _ HF6.out]; rfl
          have hc14 : w1.cell? ⟨w.heap.size, 2, none⟩ = some (.int .i64 c) := by rw [cell_of_row _ _ _ _ _ _ HF4.out]; rfl
          have hc15 : (w1.alloc (.cells #[.int .i64 a', .int .i64 bb, .int .i64 p, .int .i64 n] 48 (0, 0))).cell? ⟨w.heap.size, 3, none⟩ = some (.int .i64 d) := by rw [cell_of_row _ _ _ _ _ _ HF6.out]; rfl
          have hc16 : w1.cell? ⟨w.heap.size, 3, none⟩ = some (.int .i64 d) := by rw [cell_of_row _ _ _ _ _ _ HF4.out]; rfl
          have hl17 : w.heap.size < w1.heap.size := lt_of_block HF4.out
          have hl18 : ¬ w.heap.size = w1.heap.size := by omega
          go_wp2_with fail
          refine (HP1.out (w1.alloc (.cells #[.int .i64 a', .int .i64 bb, .int .i64 p, .int .i64 n] 48 (0, 0))) (HT.out.later HB8.out)).mono ?_
          rintro e w2 ⟨rfl, hb2⟩
          clear hc9 hc10 hc11 hc12 hc13 hc14 hc15 hc16 hl17 hl18
          have HF19 := Lib.hid (blk_below HF6.out hb2)
          have HF20 := Lib.hid (blk_below HF7.out hb2)
          have HB21 := Lib.hid (HB8.out.trans (hb2.mono HB8.out.size))
          clear hb2 HB8 HF6 HF4 HF7
          have hc22 : w2.cell? ⟨w1.heap.size, 0, none⟩ = some (.int .i64 a') := by rw [cell_of_row _ _ _ _ _ _ HF20.out]; rfl
          have hc23 : w2.cell? ⟨w1.heap.size, 1, none⟩ = some (.int .i64 bb) := by rw [cell_of_row _ _ _ _ _ _ HF20.out]; rfl
          have hc24 : w2.cell? ⟨w1.heap.size, 2, none⟩ = some (.int .i64 p) := by rw [cell_of_row _ _ _ _ _ _ HF20.out]; rfl
          have hc25 : w2.cell? ⟨w1.heap.size, 3, none⟩ = some (.int .i64 n) := by rw [cell_of_row _ _ _ _ _ _ HF20.out]; rfl
          go_wp2_with fail
          refine (HP2.out w2 (HT.out.later HB21.out)).mono ?_
          rintro e w3 ⟨rfl, hb3⟩
          clear hc22 hc23 hc24 hc25
          have HF26 := Lib.hid (blk_below HF19.out hb3)
          have HF27 := Lib.hid (blk_below HF20.out hb3)
          have HB28 := Lib.hid (HB21.out.trans (hb3.mono HB21.out.size))
          clear hb3 HB21 HF19 HF20
          have hc29 : w3.cell? ⟨w.heap.size, 0, none⟩ = some (.int .i64 a) := by rw [cell_of_row _ _ _ _ _ _ HF26.out]; rfl
          have hc30 : w3.cell? ⟨w1.heap.size, 0, none⟩ = some (.int .i64 a') := by rw [cell_of_row _ _ _ _ _ _ HF27.out]; rfl
          go_wp2_with fail
          have hr31 := fun d os => cell_regrown hc29 d os
          have hr32 := fun d os => cell_regrown hc30 d os
          refine wp_region_quiet_below (by kernel_rfl) (by kernel_rfl) ?_
          repeat (any_goals (first | go_big_quiet_step ((go_at_call 42; first | exact Calls.regrown_of (HS1.out _) | exact Calls.regrown_of (HS2.out _))) | quiet_step ((go_at_call 42; first | exact Calls.regrown_of (HS1.out _) | exact Calls.regrown_of (HS2.out _)))))
          refine wpQuiet_nil ?_
          intro w4 hw4
          have hb4 := below_anyY hw4
          clear hw4 hr31 hr32
          clear hc29 hc30
          have HF33 := Lib.hid (blk_below HF26.out hb4)
          have HF34 := Lib.hid (blk_below HF27.out hb4)
          have HB35 := Lib.hid (HB28.out.trans (hb4.mono HB28.out.size))
          clear hb4 HB28 HF26 HF27
          go_wp2_with fail
          refine (HTK.out w4 (HT.out.later HB35.out)).mono ?_
          rintro e w5 ⟨rfl, hb5⟩
          have HF36 := Lib.hid (blk_below HF33.out hb5)
          have HF37 := Lib.hid (blk_below HF34.out hb5)
          have HB38 := Lib.hid (HB35.out.trans (hb5.mono HB35.out.size))
          clear hb5 HB35 HF33 HF34
          have hk39 : w.heap.size < w5.heap.size := lt_of_block HF36.out
          have hk40 : w1.heap.size < w5.heap.size := lt_of_block HF37.out
          have HF41 := Lib.hid (blk_alloc HF36.out (.cells #[.int .i64 a2, .int .i64 b2', .int .i64 c2, .int .i64 d2] 48 (0, 0)))
          have HF42 := Lib.hid (blk_alloc HF37.out (.cells #[.int .i64 a2, .int .i64 b2', .int .i64 c2, .int .i64 d2] 48 (0, 0)))
          have HF43 := Lib.hid (blk_new w5 (.cells #[.int .i64 a2, .int .i64 b2', .int .i64 c2, .int .i64 d2] 48 (0, 0)))
          have HB44 := Lib.hid (HB38.out.alloc HB38.out.size (.cells #[.int .i64 a2, .int .i64 b2', .int .i64 c2, .int .i64 d2] 48 (0, 0)))
          clear HB38
          have hc45 : (w5.alloc (.cells #[.int .i64 a2, .int .i64 b2', .int .i64 c2, .int .i64 d2] 48 (0, 0))).cell? ⟨w.heap.size, 0, none⟩ = some (.int .i64 a) := by rw [cell_of_row _ _ _ _ _ _ HF41.out]; rfl
          have hc46 : w5.cell? ⟨w.heap.size, 0, none⟩ = some (.int .i64 a) := by rw [cell_of_row _ _ _ _ _ _ HF36.out]; rfl
          have hl47 : w.heap.size < w5.heap.size := lt_of_block HF36.out
          have hl48 : ¬ w.heap.size = w5.heap.size := by omega
          have HF49 := Lib.hid (blk_alloc HF41.out (.cells #[.string S, .string S] 68 (0, 0)))
          clear HF41
          have HF50 := Lib.hid (blk_alloc HF42.out (.cells #[.string S, .string S] 68 (0, 0)))
          clear HF42
          have HF51 := Lib.hid (blk_alloc HF43.out (.cells #[.string S, .string S] 68 (0, 0)))
          clear HF43
          have HF52 : Hid (((w5.alloc (.cells #[.int .i64 a2, .int .i64 b2', .int .i64 c2, .int .i64 d2] 48 (0, 0))).alloc (.cells #[.string S, .string S] 68 (0, 0))).heap[w5.heap.size + 1]? = some (.cells #[.string S, .string S] 68 (0, 0))) := Lib.hid (blk_newN (W := (w5.alloc (.cells #[.int .i64 a2, .int .i64 b2', .int .i64 c2, .int .i64 d2] 48 (0, 0)))) (o := (.cells #[.string S, .string S] 68 (0, 0))) (by simp))
          have HB53 := Lib.hid (HB44.out.alloc (by have := HB44.out.size; simp at this ⊢; omega) (.cells #[.string S, .string S] 68 (0, 0)))
          clear HB44
          have hc54 : ((w5.alloc (.cells #[.int .i64 a2, .int .i64 b2', .int .i64 c2, .int .i64 d2] 48 (0, 0))).alloc (.cells #[.string S, .string S] 68 (0, 0))).cell? ⟨w.heap.size, 0, none⟩ = some (.int .i64 a) := by rw [cell_of_row _ _ _ _ _ _ HF49.out]; rfl
          have hc55 : w5.cell? ⟨w.heap.size, 0, none⟩ = some (.int .i64 a) := by rw [cell_of_row _ _ _ _ _ _ HF36.out]; rfl
          have hl56 : w.heap.size < w5.heap.size := lt_of_block HF36.out
          have hl57 : ¬ w.heap.size = w5.heap.size := by omega
          go_wp2_with fail
          refine (HS1.out ((w5.alloc (.cells #[.int .i64 a2, .int .i64 b2', .int .i64 c2, .int .i64 d2] 48 (0, 0))).alloc (.cells #[.string S, .string S] 68 (0, 0)))).mono ?_
          rintro e w6 ⟨rfl, hb6⟩
          clear hc45 hc46 hl47 hl48 hc54 hc55 hl56 hl57
          have HF58 := Lib.hid (blk_below HF49.out hb6)
          have HF59 := Lib.hid (blk_below HF50.out hb6)
          have HF60 := Lib.hid (blk_below HF51.out hb6)
          have HF61 := Lib.hid (blk_below HF52.out hb6)
          have HB62 := Lib.hid (HB53.out.trans (hb6.mono HB53.out.size))
          clear hb6 HB53 HF49 HF36 HF50 HF37 HF51 HF52
          have hc63 : w6.cell? ⟨w5.heap.size + 1, 0, none⟩ = some (.string S) := by rw [cell_of_row _ _ _ _ _ _ HF61.out]; rfl
          have hc64 : w6.cell? ⟨w5.heap.size + 1, 1, none⟩ = some (.string S) := by rw [cell_of_row _ _ _ _ _ _ HF61.out]; rfl
          have hz65 : w6.frozen? ⟨w5.heap.size + 1, 1, none⟩ = false := frozen_of_row _ _ _ _ _ HF61.out
          have HF66 := Lib.hid (show (w6.setCell ⟨w5.heap.size + 1, 1, none⟩ (.string D1)).heap[w.heap.size]? = some (.cells #[.int .i64 a, .int .i64 b, .int .i64 c, .int .i64 d] 48 (0, 0)) by rw [Below.heap_setCell _ _ _ _ (by show w.heap.size ≠ w5.heap.size + 1; omega)]; exact HF58.out)
          have HF67 := Lib.hid (show (w6.setCell ⟨w5.heap.size + 1, 1, none⟩ (.string D1)).heap[w1.heap.size]? = some (.cells #[.int .i64 a', .int .i64 bb, .int .i64 p, .int .i64 n] 48 (0, 0)) by rw [Below.heap_setCell _ _ _ _ (by show w1.heap.size ≠ w5.heap.size + 1; omega)]; exact HF59.out)
          have HF68 := Lib.hid (show (w6.setCell ⟨w5.heap.size + 1, 1, none⟩ (.string D1)).heap[w5.heap.size]? = some (.cells #[.int .i64 a2, .int .i64 b2', .int .i64 c2, .int .i64 d2] 48 (0, 0)) by rw [Below.heap_setCell _ _ _ _ (by show w5.heap.size ≠ w5.heap.size + 1; omega)]; exact HF60.out)
          have HF69 := Lib.hid (show (w6.setCell ⟨w5.heap.size + 1, 1, none⟩ (.string D1)).heap[w5.heap.size + 1]? = some (.cells #[.string S, .string D1] 68 (0, 0)) by have h := heap_setCell_at (i := 1) (u := .string D1) HF61.out; exact h)
          have HB70 := Lib.hid (HB62.out.setCell (p := ⟨w5.heap.size + 1, 1, none⟩) (by show w.heap.size ≤ w5.heap.size + 1; omega) (.string D1))
          go_wp2_with fail
          refine (HC.out (w6.setCell ⟨w5.heap.size + 1, 1, none⟩ (.string D1)) (HT.out.later HB70.out)).mono ?_
          rintro e w7 ⟨rfl, hb7⟩
          clear hc63 hc64 hz65
          have HF71 := Lib.hid (blk_below HF66.out hb7)
          have HF72 := Lib.hid (blk_below HF67.out hb7)
          have HF73 := Lib.hid (blk_below HF68.out hb7)
          have HF74 := Lib.hid (blk_below HF69.out hb7)
          have HB75 := Lib.hid (HB70.out.trans (hb7.mono HB70.out.size))
          clear hb7 HB70 HF66 HF67 HF68 HF69
          have hk76 : w.heap.size < w7.heap.size := lt_of_block HF71.out
          have hk77 : w1.heap.size < w7.heap.size := lt_of_block HF72.out
          have hk78 : w5.heap.size < w7.heap.size := lt_of_block HF73.out
          have hk79 : w5.heap.size + 1 < w7.heap.size := lt_of_block HF74.out
          have HF80 := Lib.hid (blk_alloc HF71.out (.cells #[.int .i64 a, .int .i64 b, .int .i64 c, .int .i64 d] 48 (0, 0)))
          have HF81 := Lib.hid (blk_alloc HF72.out (.cells #[.int .i64 a, .int .i64 b, .int .i64 c, .int .i64 d] 48 (0, 0)))
          have HF82 := Lib.hid (blk_alloc HF73.out (.cells #[.int .i64 a, .int .i64 b, .int .i64 c, .int .i64 d] 48 (0, 0)))
          have HF83 := Lib.hid (blk_alloc HF74.out (.cells #[.int .i64 a, .int .i64 b, .int .i64 c, .int .i64 d] 48 (0, 0)))
          have HF84 := Lib.hid (blk_new w7 (.cells #[.int .i64 a, .int .i64 b, .int .i64 c, .int .i64 d] 48 (0, 0)))
          have HB85 := Lib.hid (HB75.out.alloc HB75.out.size (.cells #[.int .i64 a, .int .i64 b, .int .i64 c, .int .i64 d] 48 (0, 0)))
          clear HB75
          have hc86 : (w7.alloc (.cells #[.int .i64 a, .int .i64 b, .int .i64 c, .int .i64 d] 48 (0, 0))).cell? ⟨w1.heap.size, 0, none⟩ = some (.int .i64 a') := by rw [cell_of_row _ _ _ _ _ _ HF81.out]; rfl
          have hc87 : w7.cell? ⟨w1.heap.size, 0, none⟩ = some (.int .i64 a') := by rw [cell_of_row _ _ _ _ _ _ HF72.out]; rfl
          have hc88 : (w7.alloc (.cells #[.int .i64 a, .int .i64 b, .int .i64 c, .int .i64 d] 48 (0, 0))).cell? ⟨w1.heap.size, 1, none⟩ = some (.int .i64 bb) := by rw [cell_of_row _ _ _ _ _ _ HF81.out]; rfl
          have hc89 : w7.cell? ⟨w1.heap.size, 1, none⟩ = some (.int .i64 bb) := by rw [cell_of_row _ _ _ _ _ _ HF72.out]; rfl
          have hc90 : (w7.alloc (.cells #[.int .i64 a, .int .i64 b, .int .i64 c, .int .i64 d] 48 (0, 0))).cell? ⟨w1.heap.size, 2, none⟩ = some (.int .i64 p) := by rw [cell_of_row _ _ _ _ _ _ HF81.out]; rfl
          have hc91 : w7.cell? ⟨w1.heap.size, 2, none⟩ = some (.int .i64 p) := by rw [cell_of_row _ _ _ _ _ _ HF72.out]; rfl
          have hc92 : (w7.alloc (.cells #[.int .i64 a, .int .i64 b, .int .i64 c, .int .i64 d] 48 (0, 0))).cell? ⟨w1.heap.size, 3, none⟩ = some (.int .i64 n) := by rw [cell_of_row _ _ _ _ _ _ HF81.out]; rfl
          have hc93 : w7.cell? ⟨w1.heap.size, 3, none⟩ = some (.int .i64 n) := by rw [cell_of_row _ _ _ _ _ _ HF72.out]; rfl
          have hl94 : w1.heap.size < w7.heap.size := lt_of_block HF72.out
          have hl95 : ¬ w1.heap.size = w7.heap.size := by omega
          have hc96 : (w7.alloc (.cells #[.int .i64 a, .int .i64 b, .int .i64 c, .int .i64 d] 48 (0, 0))).cell? ⟨w.heap.size, 0, none⟩ = some (.int .i64 a) := by rw [cell_of_row _ _ _ _ _ _ HF80.out]; rfl
          have hc97 : w7.cell? ⟨w.heap.size, 0, none⟩ = some (.int .i64 a) := by rw [cell_of_row _ _ _ _ _ _ HF71.out]; rfl
          have hc98 : (w7.alloc (.cells #[.int .i64 a, .int .i64 b, .int .i64 c, .int .i64 d] 48 (0, 0))).cell? ⟨w.heap.size, 1, none⟩ = some (.int .i64 b) := by rw [cell_of_row _ _ _ _ _ _ HF80.out]; rfl
          have hc99 : w7.cell? ⟨w.heap.size, 1, none⟩ = some (.int .i64 b) := by rw [cell_of_row _ _ _ _ _ _ HF71.out]; rfl
          have hc100 : (w7.alloc (.cells #[.int .i64 a, .int .i64 b, .int .i64 c, .int .i64 d] 48 (0, 0))).cell? ⟨w.heap.size, 2, none⟩ = some (.int .i64 c) := by rw [cell_of_row _ _ _ _ _ _ HF80.out]; rfl
          have hc101 : w7.cell? ⟨w.heap.size, 2, none⟩ = some (.int .i64 c) := by rw [cell_of_row _ _ _ _ _ _ HF71.out]; rfl
          have hc102 : (w7.alloc (.cells #[.int .i64 a, .int .i64 b, .int .i64 c, .int .i64 d] 48 (0, 0))).cell? ⟨w.heap.size, 3, none⟩ = some (.int .i64 d) := by rw [cell_of_row _ _ _ _ _ _ HF80.out]; rfl
          have hc103 : w7.cell? ⟨w.heap.size, 3, none⟩ = some (.int .i64 d) := by rw [cell_of_row _ _ _ _ _ _ HF71.out]; rfl
          have hl104 : w.heap.size < w7.heap.size := lt_of_block HF71.out
          have hl105 : ¬ w.heap.size = w7.heap.size := by omega
          go_wp2_with fail
          refine (HA.out (w7.alloc (.cells #[.int .i64 a, .int .i64 b, .int .i64 c, .int .i64 d] 48 (0, 0))) (HT.out.later HB85.out)).mono ?_
          rintro e w8 ⟨rfl, hb8⟩
          clear hc86 hc87 hc88 hc89 hc90 hc91 hc92 hc93 hl94 hl95 hc96 hc97 hc98 hc99 hc100 hc101 hc102 hc103 hl104 hl105
          have HF106 := Lib.hid (blk_below HF80.out hb8)
          have HF107 := Lib.hid (blk_below HF81.out hb8)
          have HF108 := Lib.hid (blk_below HF82.out hb8)
          have HF109 := Lib.hid (blk_below HF83.out hb8)
          have HF110 := Lib.hid (blk_below HF84.out hb8)
          have HB111 := Lib.hid (HB85.out.trans (hb8.mono HB85.out.size))
          clear hb8 HB85 HF80 HF71 HF81 HF72 HF82 HF73 HF83 HF74 HF84
          go_wp2_with fail
          go_ret
          exact ⟨rfl, HB111.out⟩
set_option maxRecDepth 100000 in
theorem walk (a b c d p n : Int) (S : ByteArray) (came : Bool) (w : World) (hT : Tab w) (hs1 : (S.size : Int) ≤ 9223372036854775807) :
    Calls Tryd.prog 9 #[.agg #[.int .i64 a, .int .i64 b, .int .i64 c, .int .i64 d], .int .i64 p, .int .i64 n, .string S, .bool came] w fun e w' => e = .returned (.bool true) ∧ Below w.heap.size w w' := by
  by_cases hn : nxE a b c d p n = 0
  · by_cases h1 : S.size ≤ 1000
    · exact walk_few a b c d p n S came w hT h1 hn
    · have hd1 : decide ((1000 : Int) < (S.size : Int)) = true := decide_eq_true (by omega)
      have HT := Lib.hid hT
      have HA := Lib.hid (fun (W : World) (h : Tab W) => awake08 W h)
      have HN := Lib.hid (fun W : World => next_any a b c d p n W)
      rw [(nx_zero hn).2.2.2] at HN
      generalize a + 1 = a' at HN
      generalize 1 - b = bb at HN
      clear h1 hT hn
      have HB1 := Lib.hid (Below.refl w.heap.size w)
      go_enter Tryd.func9, Tryd.ntmps9
      go_wp2_with fail
      have HF2 := Lib.hid (blk_new w (.cells #[.int .i64 a, .int .i64 b, .int .i64 c, .int .i64 d] 48 (0, 0)))
      have HB3 := Lib.hid (HB1.out.alloc HB1.out.size (.cells #[.int .i64 a, .int .i64 b, .int .i64 c, .int .i64 d] 48 (0, 0)))
      clear HB1
      refine (HN.out (w.alloc (.cells #[.int .i64 a, .int .i64 b, .int .i64 c, .int .i64 d] 48 (0, 0)))).mono ?_
      rintro e w1 ⟨rfl, hb1⟩
      have HF4 := Lib.hid (blk_below HF2.out hb1)
      have HB5 := Lib.hid (HB3.out.trans (hb1.mono HB3.out.size))
      clear hb1 HB3 HF2
      have HF6 := Lib.hid (blk_alloc HF4.out (.cells #[.int .i64 a', .int .i64 bb, .int .i64 p, .int .i64 n] 48 (0, 0)))
      have HF7 := Lib.hid (blk_new w1 (.cells #[.int .i64 a', .int .i64 bb, .int .i64 p, .int .i64 n] 48 (0, 0)))
      have HB8 := Lib.hid (HB5.out.alloc HB5.out.size (.cells #[.int .i64 a', .int .i64 bb, .int .i64 p, .int .i64 n] 48 (0, 0)))
      clear HB5
      go_wp2_with fail
      refine (HA.out (w1.alloc (.cells #[.int .i64 a', .int .i64 bb, .int .i64 p, .int .i64 n] 48 (0, 0))) (HT.out.later HB8.out)).mono ?_
      rintro e w2 ⟨rfl, hb2⟩
      have HF9 := Lib.hid (blk_below HF6.out hb2)
      have HF10 := Lib.hid (blk_below HF7.out hb2)
      have HB11 := Lib.hid (HB8.out.trans (hb2.mono HB8.out.size))
      clear hb2 HB8 HF6 HF4 HF7
      go_wp2_with fail
      go_ret
      exact ⟨rfl, HB11.out⟩
  · obtain ⟨x, y, z, u, hx⟩ := nx_other (a := a) (b := b) (c := c) (d := d) (p := p) (n := n)
    generalize nxE a b c d p n = f at hn hx
    have hf : (f != 0) = true := by simpa using hn
    have hf2 : (f == 0) = false := by simpa using hn
    have HT := Lib.hid hT
    have HA := Lib.hid (fun (W : World) (h : Tab W) => awake08 W h)
    have HN := Lib.hid (fun W : World => next_any a b c d p n W)
    rw [hx] at HN
    clear hT hn hx
    have HB1 := Lib.hid (Below.refl w.heap.size w)
    go_enter Tryd.func9, Tryd.ntmps9
    go_wp2_with fail
    have HF2 := Lib.hid (blk_new w (.cells #[.int .i64 a, .int .i64 b, .int .i64 c, .int .i64 d] 48 (0, 0)))
    have HB3 := Lib.hid (HB1.out.alloc HB1.out.size (.cells #[.int .i64 a, .int .i64 b, .int .i64 c, .int .i64 d] 48 (0, 0)))
    clear HB1
    refine (HN.out (w.alloc (.cells #[.int .i64 a, .int .i64 b, .int .i64 c, .int .i64 d] 48 (0, 0)))).mono ?_
    rintro e w1 ⟨rfl, hb1⟩
    have HF4 := Lib.hid (blk_below HF2.out hb1)
    have HB5 := Lib.hid (HB3.out.trans (hb1.mono HB3.out.size))
    clear hb1 HB3 HF2
    have HF6 := Lib.hid (blk_alloc HF4.out (.cells #[.int .i64 x, .int .i64 y, .int .i64 z, .int .i64 u] 48 (0, 0)))
    have HF7 := Lib.hid (blk_new w1 (.cells #[.int .i64 x, .int .i64 y, .int .i64 z, .int .i64 u] 48 (0, 0)))
    have HB8 := Lib.hid (HB5.out.alloc HB5.out.size (.cells #[.int .i64 x, .int .i64 y, .int .i64 z, .int .i64 u] 48 (0, 0)))
    clear HB5
    go_wp2_with fail
    refine (HA.out (w1.alloc (.cells #[.int .i64 x, .int .i64 y, .int .i64 z, .int .i64 u] 48 (0, 0))) (HT.out.later HB8.out)).mono ?_
    rintro e w2 ⟨rfl, hb2⟩
    have HF9 := Lib.hid (blk_below HF6.out hb2)
    have HF10 := Lib.hid (blk_below HF7.out hb2)
    have HB11 := Lib.hid (HB8.out.trans (hb2.mono HB8.out.size))
    clear hb2 HB8 HF6 HF4 HF7
    go_wp2_with fail
    go_ret
    exact ⟨rfl, HB11.out⟩
end Go.Proofs.YtcgoegehgcecpaaDoor.LSeatLater
