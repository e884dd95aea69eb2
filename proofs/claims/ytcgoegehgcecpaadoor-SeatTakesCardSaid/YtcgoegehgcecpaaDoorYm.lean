/- The contract of the document's Choose of layer 8 over this translation. Condition: texts of at most a thousand bytes. -/
import Derived.Test.YtcgoegehgcecpaaDoorYl
namespace Go.Proofs.YtcgoegehgcecpaaDoor
open Go.RowKit Vi Cm

theorem bst_x {a b c d : Int} (y : Int × Int × Int × Int) (h : a % 2 = 0) (h2 : 0 < a) : bst (a, b, c, d) y 1 = (a, b, c, d) := by rw [bst_one]; exact if_pos ⟨h, h2⟩
theorem bst_n {a b c d : Int} (y : Int × Int × Int × Int) (h : ¬ (a % 2 = 0 ∧ 0 < a)) : bst (a, b, c, d) y 1 = (0, 0, 0, 0) := by rw [bst_one]; exact if_neg h
theorem bst_y {x : Int × Int × Int × Int} {a b c d : Int} (h : a % 2 = 1) (h2 : (bst x (a, b, c, d) 1).1 < a) : bst x (a, b, c, d) 2 = (a, b, c, d) := by rw [bst_two]; exact if_pos ⟨h, h2⟩
theorem bst_k {x : Int × Int × Int × Int} {a b c d : Int} (h : ¬ (a % 2 = 1 ∧ (bst x (a, b, c, d) 1).1 < a)) : bst x (a, b, c, d) 2 = bst x (a, b, c, d) 1 := by rw [bst_two]; exact if_neg h
set_option maxHeartbeats 4000000 in
set_option maxRecDepth 100000 in
theorem rchoose_any (S1 S2 : ByteArray) (a b c d e1 a2 b2 c2 d2 e2 : Int) (h1 : TkF S1 a b c d e1) (h2 : TkF S2 a2 b2 c2 d2 e2) (w : World) :
    Calls Tryd.prog 39 #[.string S1, .string S2] w fun e w' => e = .returned (.tuple #[.agg (hv (bst (a, b, c, d) (a2, b2, c2, d2) 2).1 (bst (a, b, c, d) (a2, b2, c2, d2) 2).2.1 (bst (a, b, c, d) (a2, b2, c2, d2) 2).2.2.1 (bst (a, b, c, d) (a2, b2, c2, d2) 2).2.2.2), .bool (chB (bst (a, b, c, d) (a2, b2, c2, d2) 2))]) ∧ Below w.heap.size w w' := by
  have K1 := Lib.hid h1.ref
  have K2 := Lib.hid h2.ref
  obtain ⟨t, ht⟩ : ∃ t, t = bst (a, b, c, d) (a2, b2, c2, d2) 2 := ⟨_, rfl⟩
  rw [← ht]
  rcases h1.bd with ⟨hx0, -, -, -, hx3⟩ | ⟨hx0, hx1, hx3⟩
  · rcases h2.bd with ⟨hy0, -, -, -, hy3⟩ | ⟨hy0, hy1, hy3⟩
    · have na : 0 ≤ a := by omega
      have na1 : a ≤ 4294967295 := by omega
      have ny : 0 ≤ a2 := by omega
      have ny1 : a2 ≤ 4294967295 := by omega
      have hw1 : bst (a, b, c, d) (a2, b2, c2, d2) 1 = (0, 0, 0, 0) := bst_n _ (by omega)
      have hw : bst (a, b, c, d) (a2, b2, c2, d2) 2 = (0, 0, 0, 0) := by rw [bst_k (by intro g; have g1 := g.1; omega), hw1]
      have HR := Lib.hid (show Ending.returned (.tuple #[.agg (hv 0 0 0 0), .bool false]) = .returned (.tuple #[.agg (hv t.1 t.2.1 t.2.2.1 t.2.2.2), .bool (chB t)]) by rw [ht, hw]; exact retC (by rw [show chB (0, 0, 0, 0) = false by unfold chB; exact rfl]))
      rw [show decide (e1 = 0) = false by rw [hx3]; rfl] at K1
      rw [show decide (e2 = 0) = false by rw [hy3]; rfl] at K2
      clear hw hw1 ht h1 h2 
      clear hx3 hy3 hx0 hy0
      go_enter Tryd.func39, Tryd.ntmps39
      go_wp2_with fail
      refine (K1.out _).mono ?_
      rintro e w1 ⟨rfl, hb⟩
      have R1 := Lib.hid (blk_below (blk_new w (.cells (hv 0 0 0 0) 48 (0, 0))) hb)
      have B1 := Lib.hid (((Below.refl _ w).alloc (Nat.le_refl _) (.cells (hv 0 0 0 0) 48 (0, 0))).trans (hb.mono (by simp)))
      clear hb K1
      go_wp2_with fail
      refine (K2.out (w1.alloc (.cells #[.int .i64 a, .int .i64 b, .int .i64 c, .int .i64 d] 48 (0, 0)))).mono ?_
      rintro e w2 ⟨rfl, hb⟩
      have R2 := Lib.hid (blk_below (blk_alloc R1.out (.cells #[.int .i64 a, .int .i64 b, .int .i64 c, .int .i64 d] 48 (0, 0))) hb)
      have X2 := Lib.hid (blk_below (blk_new w1 (.cells #[.int .i64 a, .int .i64 b, .int .i64 c, .int .i64 d] 48 (0, 0))) hb)
      have B2 := Lib.hid ((B1.out.alloc B1.out.size (.cells #[.int .i64 a, .int .i64 b, .int .i64 c, .int .i64 d] 48 (0, 0))).trans (hb.mono (by have := B1.out.size; simp; omega)))
      have hl : w1.heap.size < w2.heap.size := lt_of_block X2.out
      have hl2 : ¬ w1.heap.size = w2.heap.size := by omega
      have x0 : w2.cell? ⟨w1.heap.size, 0, none⟩ = some (.int .i64 a) := by rw [cell_of_row _ _ _ _ _ _ X2.out]; rfl
      have x1 : (w2.alloc (.cells #[.int .i64 a2, .int .i64 b2, .int .i64 c2, .int .i64 d2] 48 (0, 0))).cell? ⟨w1.heap.size, 0, none⟩ = some (.int .i64 a) := by rw [cell_of_row _ _ _ _ _ _ (blk_alloc X2.out _)]; rfl
      have R3 := Lib.hid (blk_alloc R2.out (.cells #[.int .i64 a2, .int .i64 b2, .int .i64 c2, .int .i64 d2] 48 (0, 0)))
      have X3 := Lib.hid (blk_alloc X2.out (.cells #[.int .i64 a2, .int .i64 b2, .int .i64 c2, .int .i64 d2] 48 (0, 0)))
      have Y3 := Lib.hid (blk_new w2 (.cells #[.int .i64 a2, .int .i64 b2, .int .i64 c2, .int .i64 d2] 48 (0, 0)))
      have B3 := Lib.hid (B2.out.alloc B2.out.size (.cells #[.int .i64 a2, .int .i64 b2, .int .i64 c2, .int .i64 d2] 48 (0, 0)))
      clear hb K2 R1 B1 R2 X2 B2
      go_wp2_with (refine wpList_store_rowY rfl 48 (.tmp 4) (.tmp 49) rfl w.heap.size (hv 0 0 0 0) rfl rfl 48 _ R3.out (info_head _ _ _ _) rfl (one_head _ _ _ _) w.heap.size w B3.out (Nat.le_refl _) ?_)
      intro Wz hbk _ hbel _
      clear x0 x1
      go_wp2_with fail
      refine bodyPost_ret (results_ctY rfl _ _ w.heap.size (hv 0 0 0 0) rfl (run_loadVar_row _ w.heap.size 48 48 _ (0, 0) _ hbk.out Tryd.underlying48 rfl (info_head _ _ _ _))) rfl ?_
      exact ⟨HR.out, hbel.out⟩
    · by_cases py : a2 % 2 = 1
      · have na : 0 ≤ a := by omega
        have na1 : a ≤ 4294967295 := by omega
        have ny : 0 ≤ a2 := by omega
        have ny1 : a2 ≤ 4294967295 := by omega
        have hw1 : bst (a, b, c, d) (a2, b2, c2, d2) 1 = (0, 0, 0, 0) := bst_n _ (by omega)
        have hw : bst (a, b, c, d) (a2, b2, c2, d2) 2 = (a2, b2, c2, d2) := bst_y py (by rw [hw1]; dsimp only; omega)
        have HR := Lib.hid (show Ending.returned (.tuple #[.agg (hv a2 b2 c2 d2), .bool true]) = .returned (.tuple #[.agg (hv t.1 t.2.1 t.2.2.1 t.2.2.2), .bool (chB t)]) by rw [ht, hw]; exact retC (by rw [show chB (a2, b2, c2, d2) = true by unfold chB; exact decide_eq_true (by dsimp only; omega)]))
        rw [show decide (e1 = 0) = false by rw [hx3]; rfl] at K1
        rw [show decide (e2 = 0) = true by rw [hy3]; rfl] at K2
        have qy : (a2 % 2 == 1) = true := by simp; exact py
        clear hw hw1 ht h1 h2 py 
        clear hx3 hy3 hx0
        go_enter Tryd.func39, Tryd.ntmps39
        go_wp2_with fail
        refine (K1.out _).mono ?_
        rintro e w1 ⟨rfl, hb⟩
        have R1 := Lib.hid (blk_below (blk_new w (.cells (hv 0 0 0 0) 48 (0, 0))) hb)
        have B1 := Lib.hid (((Below.refl _ w).alloc (Nat.le_refl _) (.cells (hv 0 0 0 0) 48 (0, 0))).trans (hb.mono (by simp)))
        clear hb K1
        go_wp2_with fail
        refine (K2.out (w1.alloc (.cells #[.int .i64 a, .int .i64 b, .int .i64 c, .int .i64 d] 48 (0, 0)))).mono ?_
        rintro e w2 ⟨rfl, hb⟩
        have R2 := Lib.hid (blk_below (blk_alloc R1.out (.cells #[.int .i64 a, .int .i64 b, .int .i64 c, .int .i64 d] 48 (0, 0))) hb)
        have X2 := Lib.hid (blk_below (blk_new w1 (.cells #[.int .i64 a, .int .i64 b, .int .i64 c, .int .i64 d] 48 (0, 0))) hb)
        have B2 := Lib.hid ((B1.out.alloc B1.out.size (.cells #[.int .i64 a, .int .i64 b, .int .i64 c, .int .i64 d] 48 (0, 0))).trans (hb.mono (by have := B1.out.size; simp; omega)))
        have hl : w1.heap.size < w2.heap.size := lt_of_block X2.out
        have hl2 : ¬ w1.heap.size = w2.heap.size := by omega
        have x0 : w2.cell? ⟨w1.heap.size, 0, none⟩ = some (.int .i64 a) := by rw [cell_of_row _ _ _ _ _ _ X2.out]; rfl
        have x1 : (w2.alloc (.cells #[.int .i64 a2, .int .i64 b2, .int .i64 c2, .int .i64 d2] 48 (0, 0))).cell? ⟨w1.heap.size, 0, none⟩ = some (.int .i64 a) := by rw [cell_of_row _ _ _ _ _ _ (blk_alloc X2.out _)]; rfl
        have R3 := Lib.hid (blk_alloc R2.out (.cells #[.int .i64 a2, .int .i64 b2, .int .i64 c2, .int .i64 d2] 48 (0, 0)))
        have X3 := Lib.hid (blk_alloc X2.out (.cells #[.int .i64 a2, .int .i64 b2, .int .i64 c2, .int .i64 d2] 48 (0, 0)))
        have Y3 := Lib.hid (blk_new w2 (.cells #[.int .i64 a2, .int .i64 b2, .int .i64 c2, .int .i64 d2] 48 (0, 0)))
        have B3 := Lib.hid (B2.out.alloc B2.out.size (.cells #[.int .i64 a2, .int .i64 b2, .int .i64 c2, .int .i64 d2] 48 (0, 0)))
        clear hb K2 R1 B1 R2 X2 B2
        go_wp2_with (first
          | refine wpList_load_row rfl 48 (.tmp 8) rfl w2.heap.size rfl 48 (hv a2 b2 c2 d2) (0, 0) _ Y3.out Tryd.underlying48 rfl (info_head _ _ _ _) ?_
          | refine wpList_store_rowY rfl 48 (.tmp 4) (.tmp 48) rfl w.heap.size (hv a2 b2 c2 d2) rfl rfl 48 _ R3.out (info_head _ _ _ _) rfl (one_head _ _ _ _) w.heap.size w B3.out (Nat.le_refl _) ?_)
        intro Wz hbk _ hbel _
        clear x0 x1
        go_wp2_with fail
        refine bodyPost_ret (results_ctY rfl _ _ w.heap.size (hv a2 b2 c2 d2) rfl (run_loadVar_row _ w.heap.size 48 48 _ (0, 0) _ hbk.out Tryd.underlying48 rfl (info_head _ _ _ _))) rfl ?_
        exact ⟨HR.out, hbel.out⟩
      · have na : 0 ≤ a := by omega
        have na1 : a ≤ 4294967295 := by omega
        have ny : 0 ≤ a2 := by omega
        have ny1 : a2 ≤ 4294967295 := by omega
        have hw1 : bst (a, b, c, d) (a2, b2, c2, d2) 1 = (0, 0, 0, 0) := bst_n _ (by omega)
        have hw : bst (a, b, c, d) (a2, b2, c2, d2) 2 = (0, 0, 0, 0) := by rw [bst_k (by intro g; exact py g.1), hw1]
        have HR := Lib.hid (show Ending.returned (.tuple #[.agg (hv 0 0 0 0), .bool false]) = .returned (.tuple #[.agg (hv t.1 t.2.1 t.2.2.1 t.2.2.2), .bool (chB t)]) by rw [ht, hw]; exact retC (by rw [show chB (0, 0, 0, 0) = false by unfold chB; exact rfl]))
        rw [show decide (e1 = 0) = false by rw [hx3]; rfl] at K1
        rw [show decide (e2 = 0) = true by rw [hy3]; rfl] at K2
        have qy : (a2 % 2 == 1) = false := by simp; exact py
        clear hw hw1 ht h1 h2 py 
        clear hx3 hy3 hx0
        go_enter Tryd.func39, Tryd.ntmps39
        go_wp2_with fail
        refine (K1.out _).mono ?_
        rintro e w1 ⟨rfl, hb⟩
        have R1 := Lib.hid (blk_below (blk_new w (.cells (hv 0 0 0 0) 48 (0, 0))) hb)
        have B1 := Lib.hid (((Below.refl _ w).alloc (Nat.le_refl _) (.cells (hv 0 0 0 0) 48 (0, 0))).trans (hb.mono (by simp)))
        clear hb K1
        go_wp2_with fail
        refine (K2.out (w1.alloc (.cells #[.int .i64 a, .int .i64 b, .int .i64 c, .int .i64 d] 48 (0, 0)))).mono ?_
        rintro e w2 ⟨rfl, hb⟩
        have R2 := Lib.hid (blk_below (blk_alloc R1.out (.cells #[.int .i64 a, .int .i64 b, .int .i64 c, .int .i64 d] 48 (0, 0))) hb)
        have X2 := Lib.hid (blk_below (blk_new w1 (.cells #[.int .i64 a, .int .i64 b, .int .i64 c, .int .i64 d] 48 (0, 0))) hb)
        have B2 := Lib.hid ((B1.out.alloc B1.out.size (.cells #[.int .i64 a, .int .i64 b, .int .i64 c, .int .i64 d] 48 (0, 0))).trans (hb.mono (by have := B1.out.size; simp; omega)))
        have hl : w1.heap.size < w2.heap.size := lt_of_block X2.out
        have hl2 : ¬ w1.heap.size = w2.heap.size := by omega
        have x0 : w2.cell? ⟨w1.heap.size, 0, none⟩ = some (.int .i64 a) := by rw [cell_of_row _ _ _ _ _ _ X2.out]; rfl
        have x1 : (w2.alloc (.cells #[.int .i64 a2, .int .i64 b2, .int .i64 c2, .int .i64 d2] 48 (0, 0))).cell? ⟨w1.heap.size, 0, none⟩ = some (.int .i64 a) := by rw [cell_of_row _ _ _ _ _ _ (blk_alloc X2.out _)]; rfl
        have R3 := Lib.hid (blk_alloc R2.out (.cells #[.int .i64 a2, .int .i64 b2, .int .i64 c2, .int .i64 d2] 48 (0, 0)))
        have X3 := Lib.hid (blk_alloc X2.out (.cells #[.int .i64 a2, .int .i64 b2, .int .i64 c2, .int .i64 d2] 48 (0, 0)))
        have Y3 := Lib.hid (blk_new w2 (.cells #[.int .i64 a2, .int .i64 b2, .int .i64 c2, .int .i64 d2] 48 (0, 0)))
        have B3 := Lib.hid (B2.out.alloc B2.out.size (.cells #[.int .i64 a2, .int .i64 b2, .int .i64 c2, .int .i64 d2] 48 (0, 0)))
        clear hb K2 R1 B1 R2 X2 B2
        go_wp2_with (refine wpList_store_rowY rfl 48 (.tmp 4) (.tmp 49) rfl w.heap.size (hv 0 0 0 0) rfl rfl 48 _ R3.out (info_head _ _ _ _) rfl (one_head _ _ _ _) w.heap.size w B3.out (Nat.le_refl _) ?_)
        intro Wz hbk _ hbel _
        clear x0 x1
        go_wp2_with fail
        refine bodyPost_ret (results_ctY rfl _ _ w.heap.size (hv 0 0 0 0) rfl (run_loadVar_row _ w.heap.size 48 48 _ (0, 0) _ hbk.out Tryd.underlying48 rfl (info_head _ _ _ _))) rfl ?_
        exact ⟨HR.out, hbel.out⟩
  · by_cases px : a % 2 = 0
    · rcases h2.bd with ⟨hy0, -, -, -, hy3⟩ | ⟨hy0, hy1, hy3⟩
      · have na : 0 ≤ a := by omega
        have na1 : a ≤ 4294967295 := by omega
        have ny : 0 ≤ a2 := by omega
        have ny1 : a2 ≤ 4294967295 := by omega
        have hw1 : bst (a, b, c, d) (a2, b2, c2, d2) 1 = (a, b, c, d) := bst_x _ px (by omega)
        have hw : bst (a, b, c, d) (a2, b2, c2, d2) 2 = (a, b, c, d) := by rw [bst_k (by intro g; have g1 := g.1; omega), hw1]
        have HR := Lib.hid (show Ending.returned (.tuple #[.agg (hv a b c d), .bool true]) = .returned (.tuple #[.agg (hv t.1 t.2.1 t.2.2.1 t.2.2.2), .bool (chB t)]) by rw [ht, hw]; exact retC (by rw [show chB (a, b, c, d) = true by unfold chB; exact decide_eq_true (by dsimp only; omega)]))
        rw [show decide (e1 = 0) = true by rw [hx3]; rfl] at K1
        rw [show decide (e2 = 0) = false by rw [hy3]; rfl] at K2
        have qx : (a % 2 == 0) = true := by simp; exact px
        clear hw hw1 ht h1 h2 px 
        clear hx3 hy3 hy0
        go_enter Tryd.func39, Tryd.ntmps39
        go_wp2_with fail
        refine (K1.out _).mono ?_
        rintro e w1 ⟨rfl, hb⟩
        have R1 := Lib.hid (blk_below (blk_new w (.cells (hv 0 0 0 0) 48 (0, 0))) hb)
        have B1 := Lib.hid (((Below.refl _ w).alloc (Nat.le_refl _) (.cells (hv 0 0 0 0) 48 (0, 0))).trans (hb.mono (by simp)))
        clear hb K1
        go_wp2_with fail
        refine (K2.out (w1.alloc (.cells #[.int .i64 a, .int .i64 b, .int .i64 c, .int .i64 d] 48 (0, 0)))).mono ?_
        rintro e w2 ⟨rfl, hb⟩
        have R2 := Lib.hid (blk_below (blk_alloc R1.out (.cells #[.int .i64 a, .int .i64 b, .int .i64 c, .int .i64 d] 48 (0, 0))) hb)
        have X2 := Lib.hid (blk_below (blk_new w1 (.cells #[.int .i64 a, .int .i64 b, .int .i64 c, .int .i64 d] 48 (0, 0))) hb)
        have B2 := Lib.hid ((B1.out.alloc B1.out.size (.cells #[.int .i64 a, .int .i64 b, .int .i64 c, .int .i64 d] 48 (0, 0))).trans (hb.mono (by have := B1.out.size; simp; omega)))
        have hl : w1.heap.size < w2.heap.size := lt_of_block X2.out
        have hl2 : ¬ w1.heap.size = w2.heap.size := by omega
        have x0 : w2.cell? ⟨w1.heap.size, 0, none⟩ = some (.int .i64 a) := by rw [cell_of_row _ _ _ _ _ _ X2.out]; rfl
        have x1 : (w2.alloc (.cells #[.int .i64 a2, .int .i64 b2, .int .i64 c2, .int .i64 d2] 48 (0, 0))).cell? ⟨w1.heap.size, 0, none⟩ = some (.int .i64 a) := by rw [cell_of_row _ _ _ _ _ _ (blk_alloc X2.out _)]; rfl
        have R3 := Lib.hid (blk_alloc R2.out (.cells #[.int .i64 a2, .int .i64 b2, .int .i64 c2, .int .i64 d2] 48 (0, 0)))
        have X3 := Lib.hid (blk_alloc X2.out (.cells #[.int .i64 a2, .int .i64 b2, .int .i64 c2, .int .i64 d2] 48 (0, 0)))
        have Y3 := Lib.hid (blk_new w2 (.cells #[.int .i64 a2, .int .i64 b2, .int .i64 c2, .int .i64 d2] 48 (0, 0)))
        have B3 := Lib.hid (B2.out.alloc B2.out.size (.cells #[.int .i64 a2, .int .i64 b2, .int .i64 c2, .int .i64 d2] 48 (0, 0)))
        clear hb K2 R1 B1 R2 X2 B2
        go_wp2_with (first
          | refine wpList_load_row rfl 48 (.tmp 6) rfl w1.heap.size rfl 48 (hv a b c d) (0, 0) _ X3.out Tryd.underlying48 rfl (info_head _ _ _ _) ?_
          | refine wpList_store_rowY rfl 48 (.tmp 4) (.tmp 46) rfl w.heap.size (hv a b c d) rfl rfl 48 _ R3.out (info_head _ _ _ _) rfl (one_head _ _ _ _) w.heap.size w B3.out (Nat.le_refl _) ?_)
        intro Wz hbk _ hbel _
        clear x0 x1
        go_wp2_with fail
        refine bodyPost_ret (results_ctY rfl _ _ w.heap.size (hv a b c d) rfl (run_loadVar_row _ w.heap.size 48 48 _ (0, 0) _ hbk.out Tryd.underlying48 rfl (info_head _ _ _ _))) rfl ?_
        exact ⟨HR.out, hbel.out⟩
      · by_cases py : a2 % 2 = 1
        · by_cases hc : a2 < a
          · have na : 0 ≤ a := by omega
            have na1 : a ≤ 4294967295 := by omega
            have ny : 0 ≤ a2 := by omega
            have ny1 : a2 ≤ 4294967295 := by omega
            have hw1 : bst (a, b, c, d) (a2, b2, c2, d2) 1 = (a, b, c, d) := bst_x _ px (by omega)
            have hw : bst (a, b, c, d) (a2, b2, c2, d2) 2 = (a, b, c, d) := by rw [bst_k (by rw [hw1]; intro g; have g2 := g.2; dsimp only at g2; omega), hw1]
            have HR := Lib.hid (show Ending.returned (.tuple #[.agg (hv a b c d), .bool true]) = .returned (.tuple #[.agg (hv t.1 t.2.1 t.2.2.1 t.2.2.2), .bool (chB t)]) by rw [ht, hw]; exact retC (by rw [show chB (a, b, c, d) = true by unfold chB; exact decide_eq_true (by dsimp only; omega)]))
            rw [show decide (e1 = 0) = true by rw [hx3]; rfl] at K1
            rw [show decide (e2 = 0) = true by rw [hy3]; rfl] at K2
            have qx : (a % 2 == 0) = true := by simp; exact px
            have qy : (a2 % 2 == 1) = true := by simp; exact py
            have qc : decide (a2 < a) = true := by simp; omega
            clear hw hw1 ht h1 h2 px py hc 
            clear hx3 hy3
            go_enter Tryd.func39, Tryd.ntmps39
            go_wp2_with fail
            refine (K1.out _).mono ?_
            rintro e w1 ⟨rfl, hb⟩
            have R1 := Lib.hid (blk_below (blk_new w (.cells (hv 0 0 0 0) 48 (0, 0))) hb)
            have B1 := Lib.hid (((Below.refl _ w).alloc (Nat.le_refl _) (.cells (hv 0 0 0 0) 48 (0, 0))).trans (hb.mono (by simp)))
            clear hb K1
            go_wp2_with fail
            refine (K2.out (w1.alloc (.cells #[.int .i64 a, .int .i64 b, .int .i64 c, .int .i64 d] 48 (0, 0)))).mono ?_
            rintro e w2 ⟨rfl, hb⟩
            have R2 := Lib.hid (blk_below (blk_alloc R1.out (.cells #[.int .i64 a, .int .i64 b, .int .i64 c, .int .i64 d] 48 (0, 0))) hb)
            have X2 := Lib.hid (blk_below (blk_new w1 (.cells #[.int .i64 a, .int .i64 b, .int .i64 c, .int .i64 d] 48 (0, 0))) hb)
            have B2 := Lib.hid ((B1.out.alloc B1.out.size (.cells #[.int .i64 a, .int .i64 b, .int .i64 c, .int .i64 d] 48 (0, 0))).trans (hb.mono (by have := B1.out.size; simp; omega)))
            have hl : w1.heap.size < w2.heap.size := lt_of_block X2.out
            have hl2 : ¬ w1.heap.size = w2.heap.size := by omega
            have x0 : w2.cell? ⟨w1.heap.size, 0, none⟩ = some (.int .i64 a) := by rw [cell_of_row _ _ _ _ _ _ X2.out]; rfl
            have x1 : (w2.alloc (.cells #[.int .i64 a2, .int .i64 b2, .int .i64 c2, .int .i64 d2] 48 (0, 0))).cell? ⟨w1.heap.size, 0, none⟩ = some (.int .i64 a) := by rw [cell_of_row _ _ _ _ _ _ (blk_alloc X2.out _)]; rfl
            have R3 := Lib.hid (blk_alloc R2.out (.cells #[.int .i64 a2, .int .i64 b2, .int .i64 c2, .int .i64 d2] 48 (0, 0)))
            have X3 := Lib.hid (blk_alloc X2.out (.cells #[.int .i64 a2, .int .i64 b2, .int .i64 c2, .int .i64 d2] 48 (0, 0)))
            have Y3 := Lib.hid (blk_new w2 (.cells #[.int .i64 a2, .int .i64 b2, .int .i64 c2, .int .i64 d2] 48 (0, 0)))
            have B3 := Lib.hid (B2.out.alloc B2.out.size (.cells #[.int .i64 a2, .int .i64 b2, .int .i64 c2, .int .i64 d2] 48 (0, 0)))
            clear hb K2 R1 B1 R2 X2 B2
            go_wp2_with (first
              | refine wpList_load_row rfl 48 (.tmp 6) rfl w1.heap.size rfl 48 (hv a b c d) (0, 0) _ X3.out Tryd.underlying48 rfl (info_head _ _ _ _) ?_
              | refine wpList_store_rowY rfl 48 (.tmp 4) (.tmp 46) rfl w.heap.size (hv a b c d) rfl rfl 48 _ R3.out (info_head _ _ _ _) rfl (one_head _ _ _ _) w.heap.size w B3.out (Nat.le_refl _) ?_)
            intro Wz hbk _ hbel _
            clear x0 x1
            go_wp2_with fail
            refine bodyPost_ret (results_ctY rfl _ _ w.heap.size (hv a b c d) rfl (run_loadVar_row _ w.heap.size 48 48 _ (0, 0) _ hbk.out Tryd.underlying48 rfl (info_head _ _ _ _))) rfl ?_
            exact ⟨HR.out, hbel.out⟩
          · have na : 0 ≤ a := by omega
            have na1 : a ≤ 4294967295 := by omega
            have ny : 0 ≤ a2 := by omega
            have ny1 : a2 ≤ 4294967295 := by omega
            have hw1 : bst (a, b, c, d) (a2, b2, c2, d2) 1 = (a, b, c, d) := bst_x _ px (by omega)
            have hw : bst (a, b, c, d) (a2, b2, c2, d2) 2 = (a2, b2, c2, d2) := bst_y py (by rw [hw1]; dsimp only; omega)
            have HR := Lib.hid (show Ending.returned (.tuple #[.agg (hv a2 b2 c2 d2), .bool true]) = .returned (.tuple #[.agg (hv t.1 t.2.1 t.2.2.1 t.2.2.2), .bool (chB t)]) by rw [ht, hw]; exact retC (by rw [show chB (a2, b2, c2, d2) = true by unfold chB; exact decide_eq_true (by dsimp only; omega)]))
            rw [show decide (e1 = 0) = true by rw [hx3]; rfl] at K1
            rw [show decide (e2 = 0) = true by rw [hy3]; rfl] at K2
            have qx : (a % 2 == 0) = true := by simp; exact px
            have qy : (a2 % 2 == 1) = true := by simp; exact py
            have qc : decide (a2 < a) = false := by simp; omega
            clear hw hw1 ht h1 h2 px py hc 
            clear hx3 hy3
            go_enter Tryd.func39, Tryd.ntmps39
            go_wp2_with fail
            refine (K1.out _).mono ?_
            rintro e w1 ⟨rfl, hb⟩
            have R1 := Lib.hid (blk_below (blk_new w (.cells (hv 0 0 0 0) 48 (0, 0))) hb)
            have B1 := Lib.hid (((Below.refl _ w).alloc (Nat.le_refl _) (.cells (hv 0 0 0 0) 48 (0, 0))).trans (hb.mono (by simp)))
            clear hb K1
            go_wp2_with fail
            refine (K2.out (w1.alloc (.cells #[.int .i64 a, .int .i64 b, .int .i64 c, .int .i64 d] 48 (0, 0)))).mono ?_
            rintro e w2 ⟨rfl, hb⟩
            have R2 := Lib.hid (blk_below (blk_alloc R1.out (.cells #[.int .i64 a, .int .i64 b, .int .i64 c, .int .i64 d] 48 (0, 0))) hb)
            have X2 := Lib.hid (blk_below (blk_new w1 (.cells #[.int .i64 a, .int .i64 b, .int .i64 c, .int .i64 d] 48 (0, 0))) hb)
            have B2 := Lib.hid ((B1.out.alloc B1.out.size (.cells #[.int .i64 a, .int .i64 b, .int .i64 c, .int .i64 d] 48 (0, 0))).trans (hb.mono (by have := B1.out.size; simp; omega)))
            have hl : w1.heap.size < w2.heap.size := lt_of_block X2.out
            have hl2 : ¬ w1.heap.size = w2.heap.size := by omega
            have x0 : w2.cell? ⟨w1.heap.size, 0, none⟩ = some (.int .i64 a) := by rw [cell_of_row _ _ _ _ _ _ X2.out]; rfl
            have x1 : (w2.alloc (.cells #[.int .i64 a2, .int .i64 b2, .int .i64 c2, .int .i64 d2] 48 (0, 0))).cell? ⟨w1.heap.size, 0, none⟩ = some (.int .i64 a) := by rw [cell_of_row _ _ _ _ _ _ (blk_alloc X2.out _)]; rfl
            have R3 := Lib.hid (blk_alloc R2.out (.cells #[.int .i64 a2, .int .i64 b2, .int .i64 c2, .int .i64 d2] 48 (0, 0)))
            have X3 := Lib.hid (blk_alloc X2.out (.cells #[.int .i64 a2, .int .i64 b2, .int .i64 c2, .int .i64 d2] 48 (0, 0)))
            have Y3 := Lib.hid (blk_new w2 (.cells #[.int .i64 a2, .int .i64 b2, .int .i64 c2, .int .i64 d2] 48 (0, 0)))
            have B3 := Lib.hid (B2.out.alloc B2.out.size (.cells #[.int .i64 a2, .int .i64 b2, .int .i64 c2, .int .i64 d2] 48 (0, 0)))
            clear hb K2 R1 B1 R2 X2 B2
            go_wp2_with (first
              | refine wpList_load_row rfl 48 (.tmp 8) rfl w2.heap.size rfl 48 (hv a2 b2 c2 d2) (0, 0) _ Y3.out Tryd.underlying48 rfl (info_head _ _ _ _) ?_
              | refine wpList_store_rowY rfl 48 (.tmp 4) (.tmp 48) rfl w.heap.size (hv a2 b2 c2 d2) rfl rfl 48 _ R3.out (info_head _ _ _ _) rfl (one_head _ _ _ _) w.heap.size w B3.out (Nat.le_refl _) ?_)
            intro Wz hbk _ hbel _
            clear x0 x1
            go_wp2_with fail
            refine bodyPost_ret (results_ctY rfl _ _ w.heap.size (hv a2 b2 c2 d2) rfl (run_loadVar_row _ w.heap.size 48 48 _ (0, 0) _ hbk.out Tryd.underlying48 rfl (info_head _ _ _ _))) rfl ?_
            exact ⟨HR.out, hbel.out⟩
        · have na : 0 ≤ a := by omega
          have na1 : a ≤ 4294967295 := by omega
          have ny : 0 ≤ a2 := by omega
          have ny1 : a2 ≤ 4294967295 := by omega
          have hw1 : bst (a, b, c, d) (a2, b2, c2, d2) 1 = (a, b, c, d) := bst_x _ px (by omega)
          have hw : bst (a, b, c, d) (a2, b2, c2, d2) 2 = (a, b, c, d) := by rw [bst_k (by intro g; exact py g.1), hw1]
          have HR := Lib.hid (show Ending.returned (.tuple #[.agg (hv a b c d), .bool true]) = .returned (.tuple #[.agg (hv t.1 t.2.1 t.2.2.1 t.2.2.2), .bool (chB t)]) by rw [ht, hw]; exact retC (by rw [show chB (a, b, c, d) = true by unfold chB; exact decide_eq_true (by dsimp only; omega)]))
          rw [show decide (e1 = 0) = true by rw [hx3]; rfl] at K1
          rw [show decide (e2 = 0) = true by rw [hy3]; rfl] at K2
          have qx : (a % 2 == 0) = true := by simp; exact px
          have qy : (a2 % 2 == 1) = false := by simp; exact py
          clear hw hw1 ht h1 h2 px py 
          clear hx3 hy3
          go_enter Tryd.func39, Tryd.ntmps39
          go_wp2_with fail
          refine (K1.out _).mono ?_
          rintro e w1 ⟨rfl, hb⟩
          have R1 := Lib.hid (blk_below (blk_new w (.cells (hv 0 0 0 0) 48 (0, 0))) hb)
          have B1 := Lib.hid (((Below.refl _ w).alloc (Nat.le_refl _) (.cells (hv 0 0 0 0) 48 (0, 0))).trans (hb.mono (by simp)))
          clear hb K1
          go_wp2_with fail
          refine (K2.out (w1.alloc (.cells #[.int .i64 a, .int .i64 b, .int .i64 c, .int .i64 d] 48 (0, 0)))).mono ?_
          rintro e w2 ⟨rfl, hb⟩
          have R2 := Lib.hid (blk_below (blk_alloc R1.out (.cells #[.int .i64 a, .int .i64 b, .int .i64 c, .int .i64 d] 48 (0, 0))) hb)
          have X2 := Lib.hid (blk_below (blk_new w1 (.cells #[.int .i64 a, .int .i64 b, .int .i64 c, .int .i64 d] 48 (0, 0))) hb)
          have B2 := Lib.hid ((B1.out.alloc B1.out.size (.cells #[.int .i64 a, .int .i64 b, .int .i64 c, .int .i64 d] 48 (0, 0))).trans (hb.mono (by have := B1.out.size; simp; omega)))
          have hl : w1.heap.size < w2.heap.size := lt_of_block X2.out
          have hl2 : ¬ w1.heap.size = w2.heap.size := by omega
          have x0 : w2.cell? ⟨w1.heap.size, 0, none⟩ = some (.int .i64 a) := by rw [cell_of_row _ _ _ _ _ _ X2.out]; rfl
          have x1 : (w2.alloc (.cells #[.int .i64 a2, .int .i64 b2, .int .i64 c2, .int .i64 d2] 48 (0, 0))).cell? ⟨w1.heap.size, 0, none⟩ = some (.int .i64 a) := by rw [cell_of_row _ _ _ _ _ _ (blk_alloc X2.out _)]; rfl
          have R3 := Lib.hid (blk_alloc R2.out (.cells #[.int .i64 a2, .int .i64 b2, .int .i64 c2, .int .i64 d2] 48 (0, 0)))
          have X3 := Lib.hid (blk_alloc X2.out (.cells #[.int .i64 a2, .int .i64 b2, .int .i64 c2, .int .i64 d2] 48 (0, 0)))
          have Y3 := Lib.hid (blk_new w2 (.cells #[.int .i64 a2, .int .i64 b2, .int .i64 c2, .int .i64 d2] 48 (0, 0)))
          have B3 := Lib.hid (B2.out.alloc B2.out.size (.cells #[.int .i64 a2, .int .i64 b2, .int .i64 c2, .int .i64 d2] 48 (0, 0)))
          clear hb K2 R1 B1 R2 X2 B2
          go_wp2_with (first
            | refine wpList_load_row rfl 48 (.tmp 6) rfl w1.heap.size rfl 48 (hv a b c d) (0, 0) _ X3.out Tryd.underlying48 rfl (info_head _ _ _ _) ?_
            | refine wpList_store_rowY rfl 48 (.tmp 4) (.tmp 46) rfl w.heap.size (hv a b c d) rfl rfl 48 _ R3.out (info_head _ _ _ _) rfl (one_head _ _ _ _) w.heap.size w B3.out (Nat.le_refl _) ?_)
          intro Wz hbk _ hbel _
          clear x0 x1
          go_wp2_with fail
          refine bodyPost_ret (results_ctY rfl _ _ w.heap.size (hv a b c d) rfl (run_loadVar_row _ w.heap.size 48 48 _ (0, 0) _ hbk.out Tryd.underlying48 rfl (info_head _ _ _ _))) rfl ?_
          exact ⟨HR.out, hbel.out⟩
    · rcases h2.bd with ⟨hy0, -, -, -, hy3⟩ | ⟨hy0, hy1, hy3⟩
      · have na : 0 ≤ a := by omega
        have na1 : a ≤ 4294967295 := by omega
        have ny : 0 ≤ a2 := by omega
        have ny1 : a2 ≤ 4294967295 := by omega
        have hw1 : bst (a, b, c, d) (a2, b2, c2, d2) 1 = (0, 0, 0, 0) := bst_n _ (by intro g; exact px g.1)
        have hw : bst (a, b, c, d) (a2, b2, c2, d2) 2 = (0, 0, 0, 0) := by rw [bst_k (by intro g; have g1 := g.1; omega), hw1]
        have HR := Lib.hid (show Ending.returned (.tuple #[.agg (hv 0 0 0 0), .bool false]) = .returned (.tuple #[.agg (hv t.1 t.2.1 t.2.2.1 t.2.2.2), .bool (chB t)]) by rw [ht, hw]; exact retC (by rw [show chB (0, 0, 0, 0) = false by unfold chB; exact rfl]))
        rw [show decide (e1 = 0) = true by rw [hx3]; rfl] at K1
        rw [show decide (e2 = 0) = false by rw [hy3]; rfl] at K2
        have qx : (a % 2 == 0) = false := by simp; exact px
        clear hw hw1 ht h1 h2 px 
        clear hx3 hy3 hy0
        go_enter Tryd.func39, Tryd.ntmps39
        go_wp2_with fail
        refine (K1.out _).mono ?_
        rintro e w1 ⟨rfl, hb⟩
        have R1 := Lib.hid (blk_below (blk_new w (.cells (hv 0 0 0 0) 48 (0, 0))) hb)
        have B1 := Lib.hid (((Below.refl _ w).alloc (Nat.le_refl _) (.cells (hv 0 0 0 0) 48 (0, 0))).trans (hb.mono (by simp)))
        clear hb K1
        go_wp2_with fail
        refine (K2.out (w1.alloc (.cells #[.int .i64 a, .int .i64 b, .int .i64 c, .int .i64 d] 48 (0, 0)))).mono ?_
        rintro e w2 ⟨rfl, hb⟩
        have R2 := Lib.hid (blk_below (blk_alloc R1.out (.cells #[.int .i64 a, .int .i64 b, .int .i64 c, .int .i64 d] 48 (0, 0))) hb)
        have X2 := Lib.hid (blk_below (blk_new w1 (.cells #[.int .i64 a, .int .i64 b, .int .i64 c, .int .i64 d] 48 (0, 0))) hb)
        have B2 := Lib.hid ((B1.out.alloc B1.out.size (.cells #[.int .i64 a, .int .i64 b, .int .i64 c, .int .i64 d] 48 (0, 0))).trans (hb.mono (by have := B1.out.size; simp; omega)))
        have hl : w1.heap.size < w2.heap.size := lt_of_block X2.out
        have hl2 : ¬ w1.heap.size = w2.heap.size := by omega
        have x0 : w2.cell? ⟨w1.heap.size, 0, none⟩ = some (.int .i64 a) := by rw [cell_of_row _ _ _ _ _ _ X2.out]; rfl
        have x1 : (w2.alloc (.cells #[.int .i64 a2, .int .i64 b2, .int .i64 c2, .int .i64 d2] 48 (0, 0))).cell? ⟨w1.heap.size, 0, none⟩ = some (.int .i64 a) := by rw [cell_of_row _ _ _ _ _ _ (blk_alloc X2.out _)]; rfl
        have R3 := Lib.hid (blk_alloc R2.out (.cells #[.int .i64 a2, .int .i64 b2, .int .i64 c2, .int .i64 d2] 48 (0, 0)))
        have X3 := Lib.hid (blk_alloc X2.out (.cells #[.int .i64 a2, .int .i64 b2, .int .i64 c2, .int .i64 d2] 48 (0, 0)))
        have Y3 := Lib.hid (blk_new w2 (.cells #[.int .i64 a2, .int .i64 b2, .int .i64 c2, .int .i64 d2] 48 (0, 0)))
        have B3 := Lib.hid (B2.out.alloc B2.out.size (.cells #[.int .i64 a2, .int .i64 b2, .int .i64 c2, .int .i64 d2] 48 (0, 0)))
        clear hb K2 R1 B1 R2 X2 B2
        go_wp2_with (refine wpList_store_rowY rfl 48 (.tmp 4) (.tmp 49) rfl w.heap.size (hv 0 0 0 0) rfl rfl 48 _ R3.out (info_head _ _ _ _) rfl (one_head _ _ _ _) w.heap.size w B3.out (Nat.le_refl _) ?_)
        intro Wz hbk _ hbel _
        clear x0 x1
        go_wp2_with fail
        refine bodyPost_ret (results_ctY rfl _ _ w.heap.size (hv 0 0 0 0) rfl (run_loadVar_row _ w.heap.size 48 48 _ (0, 0) _ hbk.out Tryd.underlying48 rfl (info_head _ _ _ _))) rfl ?_
        exact ⟨HR.out, hbel.out⟩
      · by_cases py : a2 % 2 = 1
        · have na : 0 ≤ a := by omega
          have na1 : a ≤ 4294967295 := by omega
          have ny : 0 ≤ a2 := by omega
          have ny1 : a2 ≤ 4294967295 := by omega
          have hw1 : bst (a, b, c, d) (a2, b2, c2, d2) 1 = (0, 0, 0, 0) := bst_n _ (by intro g; exact px g.1)
          have hw : bst (a, b, c, d) (a2, b2, c2, d2) 2 = (a2, b2, c2, d2) := bst_y py (by rw [hw1]; dsimp only; omega)
          have HR := Lib.hid (show Ending.returned (.tuple #[.agg (hv a2 b2 c2 d2), .bool true]) = .returned (.tuple #[.agg (hv t.1 t.2.1 t.2.2.1 t.2.2.2), .bool (chB t)]) by rw [ht, hw]; exact retC (by rw [show chB (a2, b2, c2, d2) = true by unfold chB; exact decide_eq_true (by dsimp only; omega)]))
          rw [show decide (e1 = 0) = true by rw [hx3]; rfl] at K1
          rw [show decide (e2 = 0) = true by rw [hy3]; rfl] at K2
          have qx : (a % 2 == 0) = false := by simp; exact px
          have qy : (a2 % 2 == 1) = true := by simp; exact py
          clear hw hw1 ht h1 h2 px py 
          clear hx3 hy3
          go_enter Tryd.func39, Tryd.ntmps39
          go_wp2_with fail
          refine (K1.out _).mono ?_
          rintro e w1 ⟨rfl, hb⟩
          have R1 := Lib.hid (blk_below (blk_new w (.cells (hv 0 0 0 0) 48 (0, 0))) hb)
          have B1 := Lib.hid (((Below.refl _ w).alloc (Nat.le_refl _) (.cells (hv 0 0 0 0) 48 (0, 0))).trans (hb.mono (by simp)))
          clear hb K1
          go_wp2_with fail
          refine (K2.out (w1.alloc (.cells #[.int .i64 a, .int .i64 b, .int .i64 c, .int .i64 d] 48 (0, 0)))).mono ?_
          rintro e w2 ⟨rfl, hb⟩
          have R2 := Lib.hid (blk_below (blk_alloc R1.out (.cells #[.int .i64 a, .int .i64 b, .int .i64 c, .int .i64 d] 48 (0, 0))) hb)
          have X2 := Lib.hid (blk_below (blk_new w1 (.cells #[.int .i64 a, .int .i64 b, .int .i64 c, .int .i64 d] 48 (0, 0))) hb)
          have B2 := Lib.hid ((B1.out.alloc B1.out.size (.cells #[.int .i64 a, .int .i64 b, .int .i64 c, .int .i64 d] 48 (0, 0))).trans (hb.mono (by have := B1.out.size; simp; omega)))
          have hl : w1.heap.size < w2.heap.size := lt_of_block X2.out
          have hl2 : ¬ w1.heap.size = w2.heap.size := by omega
          have x0 : w2.cell? ⟨w1.heap.size, 0, none⟩ = some (.int .i64 a) := by rw [cell_of_row _ _ _ _ _ _ X2.out]; rfl
          have x1 : (w2.alloc (.cells #[.int .i64 a2, .int .i64 b2, .int .i64 c2, .int .i64 d2] 48 (0, 0))).cell? ⟨w1.heap.size, 0, none⟩ = some (.int .i64 a) := by rw [cell_of_row _ _ _ _ _ _ (blk_alloc X2.out _)]; rfl
          have R3 := Lib.hid (blk_alloc R2.out (.cells #[.int .i64 a2, .int .i64 b2, .int .i64 c2, .int .i64 d2] 48 (0, 0)))
          have X3 := Lib.hid (blk_alloc X2.out (.cells #[.int .i64 a2, .int .i64 b2, .int .i64 c2, .int .i64 d2] 48 (0, 0)))
          have Y3 := Lib.hid (blk_new w2 (.cells #[.int .i64 a2, .int .i64 b2, .int .i64 c2, .int .i64 d2] 48 (0, 0)))
          have B3 := Lib.hid (B2.out.alloc B2.out.size (.cells #[.int .i64 a2, .int .i64 b2, .int .i64 c2, .int .i64 d2] 48 (0, 0)))
          clear hb K2 R1 B1 R2 X2 B2
          go_wp2_with (first
            | refine wpList_load_row rfl 48 (.tmp 8) rfl w2.heap.size rfl 48 (hv a2 b2 c2 d2) (0, 0) _ Y3.out Tryd.underlying48 rfl (info_head _ _ _ _) ?_
            | refine wpList_store_rowY rfl 48 (.tmp 4) (.tmp 48) rfl w.heap.size (hv a2 b2 c2 d2) rfl rfl 48 _ R3.out (info_head _ _ _ _) rfl (one_head _ _ _ _) w.heap.size w B3.out (Nat.le_refl _) ?_)
          intro Wz hbk _ hbel _
          clear x0 x1
          go_wp2_with fail
          refine bodyPost_ret (results_ctY rfl _ _ w.heap.size (hv a2 b2 c2 d2) rfl (run_loadVar_row _ w.heap.size 48 48 _ (0, 0) _ hbk.out Tryd.underlying48 rfl (info_head _ _ _ _))) rfl ?_
          exact ⟨HR.out, hbel.out⟩
        · have na : 0 ≤ a := by omega
          have na1 : a ≤ 4294967295 := by omega
          have ny : 0 ≤ a2 := by omega
          have ny1 : a2 ≤ 4294967295 := by omega
          have hw1 : bst (a, b, c, d) (a2, b2, c2, d2) 1 = (0, 0, 0, 0) := bst_n _ (by intro g; exact px g.1)
          have hw : bst (a, b, c, d) (a2, b2, c2, d2) 2 = (0, 0, 0, 0) := by rw [bst_k (by intro g; exact py g.1), hw1]
          have HR := Lib.hid (show Ending.returned (.tuple #[.agg (hv 0 0 0 0), .bool false]) = .returned (.tuple #[.agg (hv t.1 t.2.1 t.2.2.1 t.2.2.2), .bool (chB t)]) by rw [ht, hw]; exact retC (by rw [show chB (0, 0, 0, 0) = false by unfold chB; exact rfl]))
          rw [show decide (e1 = 0) = true by rw [hx3]; rfl] at K1
          rw [show decide (e2 = 0) = true by rw [hy3]; rfl] at K2
          have qx : (a % 2 == 0) = false := by simp; exact px
          have qy : (a2 % 2 == 1) = false := by simp; exact py
          clear hw hw1 ht h1 h2 px py 
          clear hx3 hy3
          go_enter Tryd.func39, Tryd.ntmps39
          go_wp2_with fail
          refine (K1.out _).mono ?_
          rintro e w1 ⟨rfl, hb⟩
          have R1 := Lib.hid (blk_below (blk_new w (.cells (hv 0 0 0 0) 48 (0, 0))) hb)
          have B1 := Lib.hid (((Below.refl _ w).alloc (Nat.le_refl _) (.cells (hv 0 0 0 0) 48 (0, 0))).trans (hb.mono (by simp)))
          clear hb K1
          go_wp2_with fail
          refine (K2.out (w1.alloc (.cells #[.int .i64 a, .int .i64 b, .int .i64 c, .int .i64 d] 48 (0, 0)))).mono ?_
          rintro e w2 ⟨rfl, hb⟩
          have R2 := Lib.hid (blk_below (blk_alloc R1.out (.cells #[.int .i64 a, .int .i64 b, .int .i64 c, .int .i64 d] 48 (0, 0))) hb)
          have X2 := Lib.hid (blk_below (blk_new w1 (.cells #[.int .i64 a, .int .i64 b, .int .i64 c, .int .i64 d] 48 (0, 0))) hb)
          have B2 := Lib.hid ((B1.out.alloc B1.out.size (.cells #[.int .i64 a, .int .i64 b, .int .i64 c, .int .i64 d] 48 (0, 0))).trans (hb.mono (by have := B1.out.size; simp; omega)))
          have hl : w1.heap.size < w2.heap.size := lt_of_block X2.out
          have hl2 : ¬ w1.heap.size = w2.heap.size := by omega
          have x0 : w2.cell? ⟨w1.heap.size, 0, none⟩ = some (.int .i64 a) := by rw [cell_of_row _ _ _ _ _ _ X2.out]; rfl
          have x1 : (w2.alloc (.cells #[.int .i64 a2, .int .i64 b2, .int .i64 c2, .int .i64 d2] 48 (0, 0))).cell? ⟨w1.heap.size, 0, none⟩ = some (.int .i64 a) := by rw [cell_of_row _ _ _ _ _ _ (blk_alloc X2.out _)]; rfl
          have R3 := Lib.hid (blk_alloc R2.out (.cells #[.int .i64 a2, .int .i64 b2, .int .i64 c2, .int .i64 d2] 48 (0, 0)))
          have X3 := Lib.hid (blk_alloc X2.out (.cells #[.int .i64 a2, .int .i64 b2, .int .i64 c2, .int .i64 d2] 48 (0, 0)))
          have Y3 := Lib.hid (blk_new w2 (.cells #[.int .i64 a2, .int .i64 b2, .int .i64 c2, .int .i64 d2] 48 (0, 0)))
          have B3 := Lib.hid (B2.out.alloc B2.out.size (.cells #[.int .i64 a2, .int .i64 b2, .int .i64 c2, .int .i64 d2] 48 (0, 0)))
          clear hb K2 R1 B1 R2 X2 B2
          go_wp2_with (refine wpList_store_rowY rfl 48 (.tmp 4) (.tmp 49) rfl w.heap.size (hv 0 0 0 0) rfl rfl 48 _ R3.out (info_head _ _ _ _) rfl (one_head _ _ _ _) w.heap.size w B3.out (Nat.le_refl _) ?_)
          intro Wz hbk _ hbel _
          clear x0 x1
          go_wp2_with fail
          refine bodyPost_ret (results_ctY rfl _ _ w.heap.size (hv 0 0 0 0) rfl (run_loadVar_row _ w.heap.size 48 48 _ (0, 0) _ hbk.out Tryd.underlying48 rfl (info_head _ _ _ _))) rfl ?_
          exact ⟨HR.out, hbel.out⟩
end Go.Proofs.YtcgoegehgcecpaaDoor
