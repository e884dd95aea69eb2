/- The contract of the document's Take of layer 8 of what is no head's sector over this translation. Condition: texts of at most a thousand bytes. -/
import Derived.Test.YtcgoegehgcecpaaDoorYi
namespace Go.Proofs.YtcgoegehgcecpaaDoor
open Go.RowKit Vi Cm

set_option maxHeartbeats 4000000 in
set_option maxRecDepth 100000 in
theorem rtake_no (S : ByteArray) (w : World) (hS : S.size ≤ 1000) (h : ¬ IsHead S) :
    Calls Tryd.prog 35 #[.string S] w fun e w' => e = .returned (.tuple #[.agg (hv 0 0 0 0), .bool false]) ∧ Below w.heap.size w w' := by
  have HBR := Lib.hid (fun W : World => rbare_any S W hS)
  cases hb : bareB S with
  | false =>
    have HU := Lib.hid (rbareV_no hb)
    clear hb h hS
    go_enter Tryd.func35, Tryd.ntmps35
    go_wp2_with fail
    refine (HBR.out _).mono ?_
    rintro e w1 ⟨rfl, hb1⟩
    have R1 := Lib.hid (blk_below (blk_new w (.cells (hv 0 0 0 0) 48 (0, 0))) hb1)
    have B1 := Lib.hid (((Below.refl _ w).alloc (Nat.le_refl _) _).trans (hb1.mono (by simp)))
    rw [HU.out]
    clear hb1 HBR HU
    go_wp2_with (refine wpList_store_rowY rfl 48 (.tmp 2) (.tmp 24) rfl w.heap.size (hv 0 0 0 0) rfl rfl 48 _ R1.out (info_head _ _ _ _) rfl (one_head _ _ _ _) w.heap.size w B1.out (Nat.le_refl _) ?_)
    intro Wz hbk _ hbel _
    go_wp2_with fail
    refine bodyPost_ret (results_ctY rfl _ _ w.heap.size (hv 0 0 0 0) rfl (run_loadVar_row _ w.heap.size 48 48 _ (0, 0) _ hbk.out Tryd.underlying48 rfl (info_head _ _ _ _))) rfl ?_
    exact ⟨rfl, hbel.out⟩
  | true =>
    obtain ⟨u, hu⟩ : ∃ u, u = bareT S := ⟨_, rfl⟩
    have HU := Lib.hid (show rbareV S = .tuple #[.string u, .bool true] by unfold rbareV; rw [hb, hu]; rfl)
    have huz2 : u.size ≤ 1000 := by have := (bare_of S hb).2.1; rw [hu]; omega
    have hlm : u.size ≤ maxLen := by unfold maxLen; omega
    by_cases h6 : u.size < 6
    · have hd6 : decide ((u.size : Int) < 6) = true := decide_eq_true (by omega)
      have hd6' : decide (u.size < 6) = true := decide_eq_true (by omega)
      clear hb h hS hu huz2 h6
      go_enter Tryd.func35, Tryd.ntmps35
      go_wp2_with fail
      refine (HBR.out _).mono ?_
      rintro e w1 ⟨rfl, hb1⟩
      have R1 := Lib.hid (blk_below (blk_new w (.cells (hv 0 0 0 0) 48 (0, 0))) hb1)
      have B1 := Lib.hid (((Below.refl _ w).alloc (Nat.le_refl _) _).trans (hb1.mono (by simp)))
      rw [HU.out]
      clear hb1 HBR HU
      go_wp2_with (refine wpList_store_rowY rfl 48 (.tmp 2) (.tmp 24) rfl w.heap.size (hv 0 0 0 0) rfl rfl 48 _ R1.out (info_head _ _ _ _) rfl (one_head _ _ _ _) w.heap.size w B1.out (Nat.le_refl _) ?_)
      intro Wz hbk _ hbel _
      go_wp2_with fail
      refine bodyPost_ret (results_ctY rfl _ _ w.heap.size (hv 0 0 0 0) rfl (run_loadVar_row _ w.heap.size 48 48 _ (0, 0) _ hbk.out Tryd.underlying48 rfl (info_head _ _ _ _))) rfl ?_
      exact ⟨rfl, hbel.out⟩
    · have huz : 6 ≤ u.size := by omega
      have hd6 : decide ((u.size : Int) < 6) = false := decide_eq_false (by omega)
      have hd6' : decide (u.size < 6) = false := decide_eq_false (by omega)
      have hYz : (u.extract 6 u.size).size ≤ 1000 := by rw [ByteArray.size_extract]; omega
      obtain ⟨a, q1, e1, g1⟩ : ∃ a' q' e', Rd.num (u.extract 6 u.size) 0 0 4294967296 = (a', q', e') := ⟨_, _, _, rfl⟩
      obtain ⟨b, q2, e2, g2⟩ : ∃ a' q' e', Rd.num (u.extract 6 u.size) q1 e1 4294967296 = (a', q', e') := ⟨_, _, _, rfl⟩
      obtain ⟨c, q3, e3, g3⟩ : ∃ a' q' e', Rd.num (u.extract 6 u.size) q2 e2 4294967296 = (a', q', e') := ⟨_, _, _, rfl⟩
      obtain ⟨d, q4, e4, g4⟩ : ∃ a' q' e', Rd.num (u.extract 6 u.size) q3 e3 4294967296 = (a', q', e') := ⟨_, _, _, rfl⟩
      have l1 := Rd.num_le (u.extract 6 u.size) 0 0 4294967296 (Nat.zero_le _)
      rw [g1] at l1
      have l2 := Rd.num_le (u.extract 6 u.size) q1 e1 4294967296 l1
      rw [g2] at l2
      have l3 := Rd.num_le (u.extract 6 u.size) q2 e2 4294967296 l2
      rw [g3] at l3
      have b1 := Rd.num_bd (u.extract 6 u.size) 0 0 4294967296 (by omega)
      rw [g1] at b1
      have b2 := Rd.num_bd (u.extract 6 u.size) q1 e1 4294967296 (by omega)
      rw [g2] at b2
      have b3 := Rd.num_bd (u.extract 6 u.size) q2 e2 4294967296 (by omega)
      rw [g3] at b3
      have b4 := Rd.num_bd (u.extract 6 u.size) q3 e3 4294967296 (by omega)
      rw [g4] at b4
      dsimp only at l1 l2 l3 b1 b2 b3 b4
      have HN1 := Lib.hid (fun W : World => rnum_scv (u.extract 6 u.size) 0 0 4294967296 _ _ _ W (by omega) (Nat.zero_le _) (by omega) (by omega) g1)
      have HN2 := Lib.hid (fun W : World => rnum_scv (u.extract 6 u.size) q1 e1 4294967296 _ _ _ W (by omega) l1 (by omega) (by omega) g2)
      have HN3 := Lib.hid (fun W : World => rnum_scv (u.extract 6 u.size) q2 e2 4294967296 _ _ _ W (by omega) l2 (by omega) (by omega) g3)
      have HN4 := Lib.hid (fun W : World => rnum_scv (u.extract 6 u.size) q3 e3 4294967296 _ _ _ W (by omega) l3 (by omega) (by omega) g4)
      have HIS := Lib.hid (fun W : World => his_any a b c d W)
      have HPT := Lib.hid (fun W : World => rputH_any a b c d W b1.2 b2.2 b3.2 b4.2)
      by_cases he : e4 = 0
      · subst he
        cases hk : hok a b c d with
        | false =>
          rw [hk] at HIS
          clear g1 g2 g3 g4 l1 l2 l3 b1 b2 b3 b4 hYz h6 hu hb h hS hk HPT
          go_enter Tryd.func35, Tryd.ntmps35
          go_wp2_with fail
          refine (HBR.out _).mono ?_
          rintro e w1 ⟨rfl, hb1⟩
          have R1 := Lib.hid (blk_below (blk_new w (.cells (hv 0 0 0 0) 48 (0, 0))) hb1)
          have B1 := Lib.hid (((Below.refl _ w).alloc (Nat.le_refl _) _).trans (hb1.mono (by simp)))
          rw [HU.out]
          clear hb1 HBR HU
          go_wp2_with fail
          refine (HN1.out w1).mono ?_
          rintro e w2 ⟨rfl, hb2⟩
          have RV := Lib.hid (blk_alloc (blk_below R1.out hb2) (.cells #[.string ⟨#[]⟩, .int .i64 0, .int .i64 0] 34 (0, 0)))
          have SV := Lib.hid (blk_new w2 (.cells #[.string ⟨#[]⟩, .int .i64 0, .int .i64 0] 34 (0, 0)))
          have hg : w.heap.size < w2.heap.size := lt_of_block (blk_below R1.out hb2)
          have BV := Lib.hid ((B1.out.trans (hb2.mono B1.out.size)).alloc (B1.out.trans (hb2.mono B1.out.size)).size (.cells #[.string ⟨#[]⟩, .int .i64 0, .int .i64 0] 34 (0, 0)))
          clear hb2 R1 B1 HN1
          go_wp2_with (refine wpList_store_rowY rfl 34 (.tmp 6) (.tmp 30) rfl w2.heap.size (scv (u.extract 6 u.size) q1 e1) rfl rfl 34 _ SV.out (info_scv _ _ _) rfl (one_scv _ _ _) w.heap.size w BV.out (by omega) ?_)
          intro W1 hbk hoth hbel _
          have R2 := Lib.hid (blk_oth RV.out hoth.out (by omega))
          have S2 := Lib.hid hbk.out
          have B2 := Lib.hid hbel.out
          clear hbk hoth hbel RV SV BV
          go_wp2_with (refine wpList_load_row rfl 34 (.tmp 6) rfl w2.heap.size rfl 34 (scv (u.extract 6 u.size) q1 e1) (0, 0) _ S2.out Tryd.underlying34 rfl (info_scv _ _ _) ?_)
          refine (HN2.out W1).mono ?_
          rintro e V2 ⟨rfl, hb⟩
          have RV := Lib.hid (blk_below R2.out hb)
          have SV := Lib.hid (blk_below S2.out hb)
          have BV := Lib.hid (B2.out.trans (hb.mono B2.out.size))
          clear hb R2 S2 B2 HN2
          go_wp2_with (refine wpList_store_rowY rfl 34 (.tmp 6) (.tmp 35) rfl w2.heap.size (scv (u.extract 6 u.size) q2 e2) rfl rfl 34 _ SV.out (info_scv _ _ _) rfl (one_scv _ _ _) w.heap.size w BV.out (by omega) ?_)
          intro W2 hbk hoth hbel _
          have R3 := Lib.hid (blk_oth RV.out hoth.out (by omega))
          have S3 := Lib.hid hbk.out
          have B3 := Lib.hid hbel.out
          clear hbk hoth hbel RV SV BV
          go_wp2_with (refine wpList_load_row rfl 34 (.tmp 6) rfl w2.heap.size rfl 34 (scv (u.extract 6 u.size) q2 e2) (0, 0) _ S3.out Tryd.underlying34 rfl (info_scv _ _ _) ?_)
          refine (HN3.out W2).mono ?_
          rintro e V3 ⟨rfl, hb⟩
          have RV := Lib.hid (blk_below R3.out hb)
          have SV := Lib.hid (blk_below S3.out hb)
          have BV := Lib.hid (B3.out.trans (hb.mono B3.out.size))
          clear hb R3 S3 B3 HN3
          go_wp2_with (refine wpList_store_rowY rfl 34 (.tmp 6) (.tmp 40) rfl w2.heap.size (scv (u.extract 6 u.size) q3 e3) rfl rfl 34 _ SV.out (info_scv _ _ _) rfl (one_scv _ _ _) w.heap.size w BV.out (by omega) ?_)
          intro W3 hbk hoth hbel _
          have R4 := Lib.hid (blk_oth RV.out hoth.out (by omega))
          have S4 := Lib.hid hbk.out
          have B4 := Lib.hid hbel.out
          clear hbk hoth hbel RV SV BV
          go_wp2_with (refine wpList_load_row rfl 34 (.tmp 6) rfl w2.heap.size rfl 34 (scv (u.extract 6 u.size) q3 e3) (0, 0) _ S4.out Tryd.underlying34 rfl (info_scv _ _ _) ?_)
          refine (HN4.out W3).mono ?_
          rintro e V4 ⟨rfl, hb⟩
          have RV := Lib.hid (blk_below R4.out hb)
          have SV := Lib.hid (blk_below S4.out hb)
          have BV := Lib.hid (B4.out.trans (hb.mono B4.out.size))
          clear hb R4 S4 B4 HN4
          go_wp2_with (refine wpList_store_rowY rfl 34 (.tmp 6) (.tmp 45) rfl w2.heap.size (scv (u.extract 6 u.size) q4 0) rfl rfl 34 _ SV.out (info_scv _ _ _) rfl (one_scv _ _ _) w.heap.size w BV.out (by omega) ?_)
          intro W4 hbk hoth hbel _
          have R5 := Lib.hid (blk_oth RV.out hoth.out (by omega))
          have S5 := Lib.hid hbk.out
          have B5 := Lib.hid hbel.out
          clear hbk hoth hbel RV SV BV
          have f2 : W4.cell? ⟨w2.heap.size, 2, none⟩ = some (.int .i64 0) := by rw [cell_of_row _ _ _ _ _ _ S5.out]; rfl
          obtain ⟨W5, hW5⟩ : ∃ W, W = W4.alloc (.cells (hv a b c d) 48 (0, 0)) := ⟨_, rfl⟩
          have HW5 := Lib.hid hW5
          have f3 : (W4.alloc (.cells #[.int .i64 a, .int .i64 b, .int .i64 c, .int .i64 d] 48 (0, 0))).cell? ⟨w2.heap.size, 2, none⟩ = some (.int .i64 0) := by rw [cell_of_row _ _ _ _ _ _ (blk_alloc S5.out _)]; rfl
          have f4 : w2.heap.size < W4.heap.size := lt_of_block S5.out
          have f5 : ¬ w2.heap.size = W4.heap.size := by omega
          have R6 := Lib.hid (show W5.heap[w.heap.size]? = some (.cells (hv 0 0 0 0) 48 (0, 0)) by rw [hW5]; exact blk_alloc R5.out _)
          have G6 := Lib.hid (show W5.heap[W4.heap.size]? = some (.cells (hv a b c d) 48 (0, 0)) by rw [hW5]; exact blk_new W4 _)
          have B6 := Lib.hid (show Below w.heap.size w W5 by rw [hW5]; exact B5.out.alloc B5.out.size _)
          clear hW5 R5 S5 B5
          go_wp2_with fail
          refine (HIS.out (W4.alloc (.cells (hv a b c d) 48 (0, 0)))).mono ?_
          rintro e V6 ⟨rfl, hb⟩
          rw [← HW5.out] at hb
          have R7 := Lib.hid (blk_below R6.out hb)
          have G7 := Lib.hid (blk_below G6.out hb)
          have B7 := Lib.hid (B6.out.trans (hb.mono B6.out.size))
          clear hb R6 G6 B6 f2 f3 f4 f5 HW5
          go_wp2_with (refine wpList_store_rowY rfl 48 (.tmp 2) (.tmp 66) rfl w.heap.size (hv 0 0 0 0) rfl rfl 48 _ R7.out (info_head _ _ _ _) rfl (one_head _ _ _ _) w.heap.size w B7.out (Nat.le_refl _) ?_)
          intro Wz hbk _ hbel _
          go_wp2_with fail
          refine bodyPost_ret (results_ctY rfl _ _ w.heap.size (hv 0 0 0 0) rfl (run_loadVar_row _ w.heap.size 48 48 _ (0, 0) _ hbk.out Tryd.underlying48 rfl (info_head _ _ _ _))) rfl ?_
          exact ⟨rfl, hbel.out⟩
        | true =>
          rw [hk] at HIS
          rw [show headD a b c d = headS a b c d by unfold headD; rw [if_pos hk]] at HPT
          have hne : ¬ headS a b c d = S := fun e => h ⟨a, b, c, d, hk, e.symm⟩
          generalize headS a b c d = S2 at HPT hne
          have hss : (S2.toList == S.toList) = false := by
            rw [beq_eq_false_iff_ne]
            intro e
            apply hne
            apply ba_ext
            rw [← ByteArray.toList_eq, e, ByteArray.toList_eq]
          clear g1 g2 g3 g4 l1 l2 l3 b1 b2 b3 b4 hYz h6 hu hb h hS hk hne
          go_enter Tryd.func35, Tryd.ntmps35
          go_wp2_with fail
          refine (HBR.out _).mono ?_
          rintro e w1 ⟨rfl, hb1⟩
          have R1 := Lib.hid (blk_below (blk_new w (.cells (hv 0 0 0 0) 48 (0, 0))) hb1)
          have B1 := Lib.hid (((Below.refl _ w).alloc (Nat.le_refl _) _).trans (hb1.mono (by simp)))
          rw [HU.out]
          clear hb1 HBR HU
          go_wp2_with fail
          refine (HN1.out w1).mono ?_
          rintro e w2 ⟨rfl, hb2⟩
          have RV := Lib.hid (blk_alloc (blk_below R1.out hb2) (.cells #[.string ⟨#[]⟩, .int .i64 0, .int .i64 0] 34 (0, 0)))
          have SV := Lib.hid (blk_new w2 (.cells #[.string ⟨#[]⟩, .int .i64 0, .int .i64 0] 34 (0, 0)))
          have hg : w.heap.size < w2.heap.size := lt_of_block (blk_below R1.out hb2)
          have BV := Lib.hid ((B1.out.trans (hb2.mono B1.out.size)).alloc (B1.out.trans (hb2.mono B1.out.size)).size (.cells #[.string ⟨#[]⟩, .int .i64 0, .int .i64 0] 34 (0, 0)))
          clear hb2 R1 B1 HN1
          go_wp2_with (refine wpList_store_rowY rfl 34 (.tmp 6) (.tmp 30) rfl w2.heap.size (scv (u.extract 6 u.size) q1 e1) rfl rfl 34 _ SV.out (info_scv _ _ _) rfl (one_scv _ _ _) w.heap.size w BV.out (by omega) ?_)
          intro W1 hbk hoth hbel _
          have R2 := Lib.hid (blk_oth RV.out hoth.out (by omega))
          have S2 := Lib.hid hbk.out
          have B2 := Lib.hid hbel.out
          clear hbk hoth hbel RV SV BV
          go_wp2_with (refine wpList_load_row rfl 34 (.tmp 6) rfl w2.heap.size rfl 34 (scv (u.extract 6 u.size) q1 e1) (0, 0) _ S2.out Tryd.underlying34 rfl (info_scv _ _ _) ?_)
          refine (HN2.out W1).mono ?_
          rintro e V2 ⟨rfl, hb⟩
          have RV := Lib.hid (blk_below R2.out hb)
          have SV := Lib.hid (blk_below S2.out hb)
          have BV := Lib.hid (B2.out.trans (hb.mono B2.out.size))
          clear hb R2 S2 B2 HN2
          go_wp2_with (refine wpList_store_rowY rfl 34 (.tmp 6) (.tmp 35) rfl w2.heap.size (scv (u.extract 6 u.size) q2 e2) rfl rfl 34 _ SV.out (info_scv _ _ _) rfl (one_scv _ _ _) w.heap.size w BV.out (by omega) ?_)
          intro W2 hbk hoth hbel _
          have R3 := Lib.hid (blk_oth RV.out hoth.out (by omega))
          have S3 := Lib.hid hbk.out
          have B3 := Lib.hid hbel.out
          clear hbk hoth hbel RV SV BV
          go_wp2_with (refine wpList_load_row rfl 34 (.tmp 6) rfl w2.heap.size rfl 34 (scv (u.extract 6 u.size) q2 e2) (0, 0) _ S3.out Tryd.underlying34 rfl (info_scv _ _ _) ?_)
          refine (HN3.out W2).mono ?_
          rintro e V3 ⟨rfl, hb⟩
          have RV := Lib.hid (blk_below R3.out hb)
          have SV := Lib.hid (blk_below S3.out hb)
          have BV := Lib.hid (B3.out.trans (hb.mono B3.out.size))
          clear hb R3 S3 B3 HN3
          go_wp2_with (refine wpList_store_rowY rfl 34 (.tmp 6) (.tmp 40) rfl w2.heap.size (scv (u.extract 6 u.size) q3 e3) rfl rfl 34 _ SV.out (info_scv _ _ _) rfl (one_scv _ _ _) w.heap.size w BV.out (by omega) ?_)
          intro W3 hbk hoth hbel _
          have R4 := Lib.hid (blk_oth RV.out hoth.out (by omega))
          have S4 := Lib.hid hbk.out
          have B4 := Lib.hid hbel.out
          clear hbk hoth hbel RV SV BV
          go_wp2_with (refine wpList_load_row rfl 34 (.tmp 6) rfl w2.heap.size rfl 34 (scv (u.extract 6 u.size) q3 e3) (0, 0) _ S4.out Tryd.underlying34 rfl (info_scv _ _ _) ?_)
          refine (HN4.out W3).mono ?_
          rintro e V4 ⟨rfl, hb⟩
          have RV := Lib.hid (blk_below R4.out hb)
          have SV := Lib.hid (blk_below S4.out hb)
          have BV := Lib.hid (B4.out.trans (hb.mono B4.out.size))
          clear hb R4 S4 B4 HN4
          go_wp2_with (refine wpList_store_rowY rfl 34 (.tmp 6) (.tmp 45) rfl w2.heap.size (scv (u.extract 6 u.size) q4 0) rfl rfl 34 _ SV.out (info_scv _ _ _) rfl (one_scv _ _ _) w.heap.size w BV.out (by omega) ?_)
          intro W4 hbk hoth hbel _
          have R5 := Lib.hid (blk_oth RV.out hoth.out (by omega))
          have S5 := Lib.hid hbk.out
          have B5 := Lib.hid hbel.out
          clear hbk hoth hbel RV SV BV
          have f2 : W4.cell? ⟨w2.heap.size, 2, none⟩ = some (.int .i64 0) := by rw [cell_of_row _ _ _ _ _ _ S5.out]; rfl
          obtain ⟨W5, hW5⟩ : ∃ W, W = W4.alloc (.cells (hv a b c d) 48 (0, 0)) := ⟨_, rfl⟩
          have HW5 := Lib.hid hW5
          have f3 : (W4.alloc (.cells #[.int .i64 a, .int .i64 b, .int .i64 c, .int .i64 d] 48 (0, 0))).cell? ⟨w2.heap.size, 2, none⟩ = some (.int .i64 0) := by rw [cell_of_row _ _ _ _ _ _ (blk_alloc S5.out _)]; rfl
          have f4 : w2.heap.size < W4.heap.size := lt_of_block S5.out
          have f5 : ¬ w2.heap.size = W4.heap.size := by omega
          have R6 := Lib.hid (show W5.heap[w.heap.size]? = some (.cells (hv 0 0 0 0) 48 (0, 0)) by rw [hW5]; exact blk_alloc R5.out _)
          have G6 := Lib.hid (show W5.heap[W4.heap.size]? = some (.cells (hv a b c d) 48 (0, 0)) by rw [hW5]; exact blk_new W4 _)
          have B6 := Lib.hid (show Below w.heap.size w W5 by rw [hW5]; exact B5.out.alloc B5.out.size _)
          clear hW5 R5 S5 B5
          go_wp2_with fail
          refine (HIS.out (W4.alloc (.cells (hv a b c d) 48 (0, 0)))).mono ?_
          rintro e V6 ⟨rfl, hb⟩
          rw [← HW5.out] at hb
          have R7 := Lib.hid (blk_below R6.out hb)
          have G7 := Lib.hid (blk_below G6.out hb)
          have B7 := Lib.hid (B6.out.trans (hb.mono B6.out.size))
          clear hb R6 G6 B6 f2 f3 f4 f5 HW5
          have c0 : V6.cell? ⟨W4.heap.size, 0, none⟩ = some (.int .i64 a) := by rw [cell_of_row _ _ _ _ _ _ G7.out]; rfl
          have c1 : V6.cell? ⟨W4.heap.size, 1, none⟩ = some (.int .i64 b) := by rw [cell_of_row _ _ _ _ _ _ G7.out]; rfl
          have c2 : V6.cell? ⟨W4.heap.size, 2, none⟩ = some (.int .i64 c) := by rw [cell_of_row _ _ _ _ _ _ G7.out]; rfl
          have c3 : V6.cell? ⟨W4.heap.size, 3, none⟩ = some (.int .i64 d) := by rw [cell_of_row _ _ _ _ _ _ G7.out]; rfl
          go_wp2_with fail
          refine (HPT.out V6).mono ?_
          rintro e V7 ⟨rfl, hb⟩
          have R8 := Lib.hid (blk_below R7.out hb)
          have G8 := Lib.hid (blk_below G7.out hb)
          have B8 := Lib.hid (B7.out.trans (hb.mono B7.out.size))
          clear hb R7 G7 B7 c0 c1 c2 c3
          go_wp2_with (refine wpList_store_rowY rfl 48 (.tmp 2) (.tmp 66) rfl w.heap.size (hv 0 0 0 0) rfl rfl 48 _ R8.out (info_head _ _ _ _) rfl (one_head _ _ _ _) w.heap.size w B8.out (Nat.le_refl _) ?_)
          intro Wz hbk _ hbel _
          go_wp2_with fail
          refine bodyPost_ret (results_ctY rfl _ _ w.heap.size (hv 0 0 0 0) rfl (run_loadVar_row _ w.heap.size 48 48 _ (0, 0) _ hbk.out Tryd.underlying48 rfl (info_head _ _ _ _))) rfl ?_
          exact ⟨rfl, hbel.out⟩
      · have hn : (e4 != 0) = true := by simpa using he
        have hn' : (e4 == 0) = false := by simpa using he
        clear g1 g2 g3 g4 l1 l2 l3 b1 b2 b3 b4 hYz h6 hu hb h hS he HPT HIS
        go_enter Tryd.func35, Tryd.ntmps35
        go_wp2_with fail
        refine (HBR.out _).mono ?_
        rintro e w1 ⟨rfl, hb1⟩
        have R1 := Lib.hid (blk_below (blk_new w (.cells (hv 0 0 0 0) 48 (0, 0))) hb1)
        have B1 := Lib.hid (((Below.refl _ w).alloc (Nat.le_refl _) _).trans (hb1.mono (by simp)))
        rw [HU.out]
        clear hb1 HBR HU
        go_wp2_with fail
        refine (HN1.out w1).mono ?_
        rintro e w2 ⟨rfl, hb2⟩
        have RV := Lib.hid (blk_alloc (blk_below R1.out hb2) (.cells #[.string ⟨#[]⟩, .int .i64 0, .int .i64 0] 34 (0, 0)))
        have SV := Lib.hid (blk_new w2 (.cells #[.string ⟨#[]⟩, .int .i64 0, .int .i64 0] 34 (0, 0)))
        have hg : w.heap.size < w2.heap.size := lt_of_block (blk_below R1.out hb2)
        have BV := Lib.hid ((B1.out.trans (hb2.mono B1.out.size)).alloc (B1.out.trans (hb2.mono B1.out.size)).size (.cells #[.string ⟨#[]⟩, .int .i64 0, .int .i64 0] 34 (0, 0)))
        clear hb2 R1 B1 HN1
        go_wp2_with (refine wpList_store_rowY rfl 34 (.tmp 6) (.tmp 30) rfl w2.heap.size (scv (u.extract 6 u.size) q1 e1) rfl rfl 34 _ SV.out (info_scv _ _ _) rfl (one_scv _ _ _) w.heap.size w BV.out (by omega) ?_)
        intro W1 hbk hoth hbel _
        have R2 := Lib.hid (blk_oth RV.out hoth.out (by omega))
        have S2 := Lib.hid hbk.out
        have B2 := Lib.hid hbel.out
        clear hbk hoth hbel RV SV BV
        go_wp2_with (refine wpList_load_row rfl 34 (.tmp 6) rfl w2.heap.size rfl 34 (scv (u.extract 6 u.size) q1 e1) (0, 0) _ S2.out Tryd.underlying34 rfl (info_scv _ _ _) ?_)
        refine (HN2.out W1).mono ?_
        rintro e V2 ⟨rfl, hb⟩
        have RV := Lib.hid (blk_below R2.out hb)
        have SV := Lib.hid (blk_below S2.out hb)
        have BV := Lib.hid (B2.out.trans (hb.mono B2.out.size))
        clear hb R2 S2 B2 HN2
        go_wp2_with (refine wpList_store_rowY rfl 34 (.tmp 6) (.tmp 35) rfl w2.heap.size (scv (u.extract 6 u.size) q2 e2) rfl rfl 34 _ SV.out (info_scv _ _ _) rfl (one_scv _ _ _) w.heap.size w BV.out (by omega) ?_)
        intro W2 hbk hoth hbel _
        have R3 := Lib.hid (blk_oth RV.out hoth.out (by omega))
        have S3 := Lib.hid hbk.out
        have B3 := Lib.hid hbel.out
        clear hbk hoth hbel RV SV BV
        go_wp2_with (refine wpList_load_row rfl 34 (.tmp 6) rfl w2.heap.size rfl 34 (scv (u.extract 6 u.size) q2 e2) (0, 0) _ S3.out Tryd.underlying34 rfl (info_scv _ _ _) ?_)
        refine (HN3.out W2).mono ?_
        rintro e V3 ⟨rfl, hb⟩
        have RV := Lib.hid (blk_below R3.out hb)
        have SV := Lib.hid (blk_below S3.out hb)
        have BV := Lib.hid (B3.out.trans (hb.mono B3.out.size))
        clear hb R3 S3 B3 HN3
        go_wp2_with (refine wpList_store_rowY rfl 34 (.tmp 6) (.tmp 40) rfl w2.heap.size (scv (u.extract 6 u.size) q3 e3) rfl rfl 34 _ SV.out (info_scv _ _ _) rfl (one_scv _ _ _) w.heap.size w BV.out (by omega) ?_)
        intro W3 hbk hoth hbel _
        have R4 := Lib.hid (blk_oth RV.out hoth.out (by omega))
        have S4 := Lib.hid hbk.out
        have B4 := Lib.hid hbel.out
        clear hbk hoth hbel RV SV BV
        go_wp2_with (refine wpList_load_row rfl 34 (.tmp 6) rfl w2.heap.size rfl 34 (scv (u.extract 6 u.size) q3 e3) (0, 0) _ S4.out Tryd.underlying34 rfl (info_scv _ _ _) ?_)
        refine (HN4.out W3).mono ?_
        rintro e V4 ⟨rfl, hb⟩
        have RV := Lib.hid (blk_below R4.out hb)
        have SV := Lib.hid (blk_below S4.out hb)
        have BV := Lib.hid (B4.out.trans (hb.mono B4.out.size))
        clear hb R4 S4 B4 HN4
        go_wp2_with (refine wpList_store_rowY rfl 34 (.tmp 6) (.tmp 45) rfl w2.heap.size (scv (u.extract 6 u.size) q4 e4) rfl rfl 34 _ SV.out (info_scv _ _ _) rfl (one_scv _ _ _) w.heap.size w BV.out (by omega) ?_)
        intro W4 hbk hoth hbel _
        have R5 := Lib.hid (blk_oth RV.out hoth.out (by omega))
        have S5 := Lib.hid hbk.out
        have B5 := Lib.hid hbel.out
        clear hbk hoth hbel RV SV BV
        have f2 : W4.cell? ⟨w2.heap.size, 2, none⟩ = some (.int .i64 e4) := by rw [cell_of_row _ _ _ _ _ _ S5.out]; rfl
        obtain ⟨W5, hW5⟩ : ∃ W, W = W4.alloc (.cells (hv a b c d) 48 (0, 0)) := ⟨_, rfl⟩
        have HW5 := Lib.hid hW5
        have f3 : (W4.alloc (.cells #[.int .i64 a, .int .i64 b, .int .i64 c, .int .i64 d] 48 (0, 0))).cell? ⟨w2.heap.size, 2, none⟩ = some (.int .i64 e4) := by rw [cell_of_row _ _ _ _ _ _ (blk_alloc S5.out _)]; rfl
        have f4 : w2.heap.size < W4.heap.size := lt_of_block S5.out
        have f5 : ¬ w2.heap.size = W4.heap.size := by omega
        have R6 := Lib.hid (show W5.heap[w.heap.size]? = some (.cells (hv 0 0 0 0) 48 (0, 0)) by rw [hW5]; exact blk_alloc R5.out _)
        have G6 := Lib.hid (show W5.heap[W4.heap.size]? = some (.cells (hv a b c d) 48 (0, 0)) by rw [hW5]; exact blk_new W4 _)
        have B6 := Lib.hid (show Below w.heap.size w W5 by rw [hW5]; exact B5.out.alloc B5.out.size _)
        clear hW5 R5 S5 B5
        go_wp2_with (refine wpList_store_rowY rfl 48 (.tmp 2) (.tmp 66) rfl w.heap.size (hv 0 0 0 0) rfl rfl 48 _ (by have h := R6.out; rw [HW5.out] at h; exact h) (info_head _ _ _ _) rfl (one_head _ _ _ _) w.heap.size w (by have h := B6.out; rw [HW5.out] at h; exact h) (Nat.le_refl _) ?_)
        intro Wz hbk _ hbel _
        go_wp2_with fail
        refine bodyPost_ret (results_ctY rfl _ _ w.heap.size (hv 0 0 0 0) rfl (run_loadVar_row _ w.heap.size 48 48 _ (0, 0) _ hbk.out Tryd.underlying48 rfl (info_head _ _ _ _))) rfl ?_
        exact ⟨rfl, hbel.out⟩
end Go.Proofs.YtcgoegehgcecpaaDoor
