/- The contract of seat.Take of what is no head's sector over this translation. Conditions: texts of at most a thousand bytes; the table of crc. -/
import Derived.Test.YtcgoegehgcecpaaDoorYg
namespace Go.Proofs.YtcgoegehgcecpaaDoor
open Go.RowKit Vi Cm

theorem sz_upto (u : ByteArray) (n : Nat) : (u.extract 0 n).size ≤ u.size := by rw [ByteArray.size_extract]; omega
set_option maxHeartbeats 4000000 in
set_option maxRecDepth 100000 in
theorem take_no (S : ByteArray) (w : World) (hT : Tab w) (hS : S.size ≤ 1000) (h : ¬ IsHead S) :
    Calls Tryd.prog 34 #[.string S] w fun e w' => e = .returned (.tuple #[.agg (hv 0 0 0 0), .int .i64 3]) ∧ Below w.heap.size w w' := by
  have HT := Lib.hid hT
  have HBR := Lib.hid (fun W : World => bare_any S W hS)
  obtain ⟨u, ev, hu⟩ : ∃ u ev, bareV S = .tuple #[.string u, .int .i64 ev] := ⟨_, _, rfl⟩
  have huz : u.size ≤ 1000 := by
    unfold bareV at hu
    injection hu with hu
    simp only [Array.mk.injEq, List.cons.injEq, Value.string.injEq, and_true] at hu
    rw [← hu.1]
    split
    · rename_i hb; have := (bare_of S hb).2.1; omega
    · exact Nat.zero_le _
  have hub : sealed u = true → bareB S = true ∧ u = bareT S := by
    intro hs
    unfold bareV at hu
    injection hu with hu
    simp only [Array.mk.injEq, List.cons.injEq, Value.string.injEq, and_true] at hu
    cases hb : bareB S with
    | true => rw [hb] at hu; exact ⟨rfl, hu.1.symm⟩
    | false =>
      rw [hb] at hu
      have := hu.1
      rw [if_neg (by simp)] at this
      rw [← this, sealed_empty] at hs
      cases hs
  have HU := Lib.hid hu
  have HUS := Lib.hid (show u.size ≤ 90000 by omega)
  clear hu hT
  cases hse : sealed u with
  | false =>
    have HO := Lib.hid (opened_noY u hse)
    clear hse hub huz h hS
    go_enter Tryd.func34, Tryd.ntmps34
    go_wp2_with fail
    refine (HBR.out _).mono ?_
    rintro e w1 ⟨rfl, hb1⟩
    have R1 := Lib.hid (blk_below (blk_new w (.cells (hv 0 0 0 0) 48 (0, 0))) hb1)
    have B1 := Lib.hid (((Below.refl _ w).alloc (Nat.le_refl _) _).trans (hb1.mono (by simp)))
    rw [HU.out]
    clear hb1 HBR HU
    go_wp2_with fail
    refine (open_any u w1 (HT.out.later B1.out) HUS.out).mono ?_
    rintro e w2 ⟨rfl, hb2⟩
    have R2 := Lib.hid (blk_below R1.out hb2)
    have B2 := Lib.hid (B1.out.trans (hb2.mono B1.out.size))
    rw [HO.out]
    clear hb2 R1 B1 HO
    go_wp2_with fail
    refine (new_any _ w2).mono ?_
    rintro e w3 ⟨rfl, hs3, hb3⟩
    have R3 := Lib.hid (blk_below R2.out hb3)
    have B3 := Lib.hid (B2.out.trans (hb3.mono B2.out.size))
    have hg2 : w.heap.size < w2.heap.size := lt_of_block R2.out
    have H3 := Lib.hid hs3
    clear hs3 hb3 R2 B2
    go_wp2_with (refine wpList_store_rowY rfl 48 (.tmp 2) (.tmp 30) rfl w.heap.size (hv 0 0 0 0) rfl rfl 48 _ R3.out (info_head _ _ _ _) rfl (one_head _ _ _ _) w.heap.size w B3.out (Nat.le_refl _) ?_)
    intro W4 hb1 _ hbel _
    go_wp2_with fail
    refine bodyPost_ret (results_ctY rfl _ _ w.heap.size (hv 0 0 0 0) rfl (run_loadVar_row _ w.heap.size 48 48 _ (0, 0) _ hb1.out Tryd.underlying48 rfl (info_head _ _ _ _))) rfl ?_
    exact ⟨rfl, hbel.out⟩
  | true =>
    obtain ⟨hb, hbt⟩ := hub hse
    obtain ⟨X, hX⟩ : ∃ X, X = u.extract 0 (u.size - 4) := ⟨_, rfl⟩
    have HO := Lib.hid (show opened u = .tuple #[.string X, .bool true] by rw [opened_yesY u hse, hX])
    have hxz : X.size ≤ 1000 := by rw [hX]; exact Nat.le_trans (sz_upto _ _) huz
    obtain ⟨f, q0, e0, hfx⟩ : ∃ f q0 e0, Rd.fix X 0 0 6 = (f, q0, e0) := ⟨_, _, _, rfl⟩
    have HFX := Lib.hid (fun (W : World) (B : Nat) (k : Sc W B true X 0 0) => fixU W B X 0 0 6 (by omega) (Nat.zero_le _) k)
    rw [hfx] at HFX
    dsimp only at HFX
    by_cases hfs : f = signS
    · obtain ⟨a, q1, e1, g1⟩ : ∃ a q1 e1, Rd.num X q0 e0 4294967295 = (a, q1, e1) := ⟨_, _, _, rfl⟩
      obtain ⟨b, q2, e2, g2⟩ : ∃ a' q' e', Rd.num X q1 e1 1 = (a', q', e') := ⟨_, _, _, rfl⟩
      obtain ⟨c, q3, e3, g3⟩ : ∃ a' q' e', Rd.num X q2 e2 524288 = (a', q', e') := ⟨_, _, _, rfl⟩
      obtain ⟨d, q4, e4, g4⟩ : ∃ a' q' e', Rd.num X q3 e3 4294967296 = (a', q', e') := ⟨_, _, _, rfl⟩
      obtain ⟨z, g5⟩ : ∃ z, Rd.fin X q4 e4 = z := ⟨_, rfl⟩
      have l0 := Rd.fix_le X 0 0 6 (Nat.zero_le _)
      rw [hfx] at l0
      have l1 := Rd.num_le X q0 e0 4294967295 l0
      rw [g1] at l1
      have l2 := Rd.num_le X q1 e1 1 l1
      rw [g2] at l2
      have l3 := Rd.num_le X q2 e2 524288 l2
      rw [g3] at l3
      have l4 := Rd.num_le X q3 e3 4294967296 l3
      rw [g4] at l4
      dsimp only at l0 l1 l2 l3 l4
      have HN1 := Lib.hid (fun (W : World) (B : Nat) (k : Sc W B true X q0 e0) => numU W B X q0 e0 4294967295 (by omega) l0 k (by omega))
      have HN2 := Lib.hid (fun (W : World) (B : Nat) (k : Sc W B true X q1 e1) => numU W B X q1 e1 1 (by omega) l1 k (by omega))
      have HN3 := Lib.hid (fun (W : World) (B : Nat) (k : Sc W B true X q2 e2) => numU W B X q2 e2 524288 (by omega) l2 k (by omega))
      have HN4 := Lib.hid (fun (W : World) (B : Nat) (k : Sc W B true X q3 e3) => numU W B X q3 e3 4294967296 (by omega) l3 k (by omega))
      have HEND := Lib.hid (fun (W : World) (B : Nat) (k : Sc W B true X q4 e4) => finU W B X q4 e4 (by omega) l4 k)
      rw [g1] at HN1
      rw [g2] at HN2
      rw [g3] at HN3
      rw [g4] at HN4
      rw [g5] at HEND
      dsimp only at HN1 HN2 HN3 HN4 HEND
      have hsg : (f.toList == [112, 108, 101, 97, 99, 104]) = true := by rw [hfs]; decide +kernel
      by_cases hz : z = 0
      · subst hz
        have hno : hok a b c d = false := by
          rw [Bool.eq_false_iff]
          intro hk
          exact h ⟨a, b, c, d, hk, head_of S X f q0 q1 q2 q3 q4 e0 e1 e2 e3 e4 a b c d hb (by rw [← hbt]; exact hse) (by rw [← hbt, hX]) hfx hfs g1 g2 g3 g4 g5⟩
        have HCK := Lib.hid (fun W : World => hcheck_any a b c d W)
        rw [show errH a b c d = 2 by unfold errH; rw [hno]; rfl] at HCK
        clear hfx g1 g2 g3 g4 g5 l0 l1 l2 l3 l4 hxz hno hfs hX hb hbt hub hse huz h hS
        go_enter Tryd.func34, Tryd.ntmps34
        go_wp2_with fail
        refine (HBR.out _).mono ?_
        rintro e w1 ⟨rfl, hb1⟩
        have R1 := Lib.hid (blk_below (blk_new w (.cells (hv 0 0 0 0) 48 (0, 0))) hb1)
        have B1 := Lib.hid (((Below.refl _ w).alloc (Nat.le_refl _) _).trans (hb1.mono (by simp)))
        rw [HU.out]
        clear hb1 HBR HU
        go_wp2_with fail
        refine (open_any u w1 (HT.out.later B1.out) HUS.out).mono ?_
        rintro e w2 ⟨rfl, hb2⟩
        have R2 := Lib.hid (blk_below R1.out hb2)
        have B2 := Lib.hid (B1.out.trans (hb2.mono B1.out.size))
        rw [HO.out]
        clear hb2 R1 B1 HO
        go_wp2_with fail
        refine (new_any _ w2).mono ?_
        rintro e w3 ⟨rfl, hs3, hb3⟩
        have R3 := Lib.hid (blk_below R2.out hb3)
        have B3 := Lib.hid (B2.out.trans (hb3.mono B2.out.size))
        have hg2 : w.heap.size < w2.heap.size := lt_of_block R2.out
        have H3 := Lib.hid hs3
        clear hs3 hb3 R2 B2
        go_wp2_with fail
        refine (HFX.out w3 _ H3.out).mono ?_
        rintro e w4 ⟨rfl, hs4, hk4⟩
        have R4 := Lib.hid (blk_but R3.out hk4 (by omega))
        have B4 := Lib.hid (But.below B3.out hk4 (by omega) B3.out.size)
        have H4 := Lib.hid hs4
        clear hs4 hk4 R3 B3 H3
        go_wp2_with fail
        refine (HN1.out w4 _ H4.out).mono ?_
        rintro e w5 ⟨rfl, hs5, hk5⟩
        have R5 := Lib.hid (blk_but R4.out hk5 (by omega))
        have B5 := Lib.hid (But.below B4.out hk5 (by omega) B4.out.size)
        have H5 := Lib.hid hs5
        clear hs5 hk5 R4 B4 H4
        go_wp2_with fail
        refine (HN2.out w5 _ H5.out).mono ?_
        rintro e w6 ⟨rfl, hs6, hk6⟩
        have R6 := Lib.hid (blk_but R5.out hk6 (by omega))
        have B6 := Lib.hid (But.below B5.out hk6 (by omega) B5.out.size)
        have H6 := Lib.hid hs6
        clear hs6 hk6 R5 B5 H5
        go_wp2_with fail
        refine (HN3.out w6 _ H6.out).mono ?_
        rintro e w7 ⟨rfl, hs7, hk7⟩
        have R7 := Lib.hid (blk_but R6.out hk7 (by omega))
        have B7 := Lib.hid (But.below B6.out hk7 (by omega) B6.out.size)
        have H7 := Lib.hid hs7
        clear hs7 hk7 R6 B6 H6
        go_wp2_with fail
        refine (HN4.out w7 _ H7.out).mono ?_
        rintro e w8 ⟨rfl, hs8, hk8⟩
        have R8 := Lib.hid (blk_but R7.out hk8 (by omega))
        have B8 := Lib.hid (But.below B7.out hk8 (by omega) B7.out.size)
        have H8 := Lib.hid hs8
        clear hs8 hk8 R7 B7 H7
        go_wp2_with fail
        refine (HEND.out (w8.alloc (.cells (hv a b c d) 48 (0, 0))) _ (H8.out.alloc _)).mono ?_
        rintro e w9 ⟨rfl, hs9, hk9⟩
        have G9 := Lib.hid (blk_but (blk_new w8 (.cells (hv a b c d) 48 (0, 0))) hk9 (by have := H8.out.lt; omega))
        have R9 := Lib.hid (blk_but ((Below.heap_alloc w8 (.cells (hv a b c d) 48 (0, 0)) _ (lt_of_block R8.out)).trans R8.out) hk9 (by omega))
        have B9 := Lib.hid (But.below (B8.out.alloc B8.out.size _) hk9 (by omega) (by have := B8.out.size; simp; omega))
        have hg8 : w.heap.size < w8.heap.size := lt_of_block R8.out
        clear hs9 hk9 R8 B8 H8
        have c0 : w9.cell? ⟨w8.heap.size, 0, none⟩ = some (.int .i64 a) := by rw [cell_of_row _ _ _ _ _ _ G9.out]; rfl
        have c1 : w9.cell? ⟨w8.heap.size, 1, none⟩ = some (.int .i64 b) := by rw [cell_of_row _ _ _ _ _ _ G9.out]; rfl
        have c2 : w9.cell? ⟨w8.heap.size, 2, none⟩ = some (.int .i64 c) := by rw [cell_of_row _ _ _ _ _ _ G9.out]; rfl
        have c3 : w9.cell? ⟨w8.heap.size, 3, none⟩ = some (.int .i64 d) := by rw [cell_of_row _ _ _ _ _ _ G9.out]; rfl
        go_wp2_with fail
        refine (HCK.out w9).mono ?_
        rintro e w10 ⟨rfl, hb10⟩
        have R10 := Lib.hid (blk_below R9.out hb10)
        have G10 := Lib.hid (blk_below G9.out hb10)
        have B10 := Lib.hid (B9.out.trans (hb10.mono B9.out.size))
        clear hb10 R9 G9 B9 c0 c1 c2 c3
        go_wp2_with (refine wpList_store_rowY rfl 48 (.tmp 2) (.tmp 50) rfl w.heap.size (hv 0 0 0 0) rfl rfl 48 _ R10.out (info_head _ _ _ _) rfl (one_head _ _ _ _) w.heap.size w B10.out (Nat.le_refl _) ?_)
        intro W4 hb1 _ hbel _
        go_wp2_with fail
        refine bodyPost_ret (results_ctY rfl _ _ w.heap.size (hv 0 0 0 0) rfl (run_loadVar_row _ w.heap.size 48 48 _ (0, 0) _ hb1.out Tryd.underlying48 rfl (info_head _ _ _ _))) rfl ?_
        exact ⟨rfl, hbel.out⟩
      · have hzz : (z != 0) = true := by simpa using hz
        have hzz' : (z == 0) = false := by simpa using hz
        clear hfx g1 g2 g3 g4 g5 l0 l1 l2 l3 l4 hxz hz hfs hX hb hbt hub hse huz h hS
        go_enter Tryd.func34, Tryd.ntmps34
        go_wp2_with fail
        refine (HBR.out _).mono ?_
        rintro e w1 ⟨rfl, hb1⟩
        have R1 := Lib.hid (blk_below (blk_new w (.cells (hv 0 0 0 0) 48 (0, 0))) hb1)
        have B1 := Lib.hid (((Below.refl _ w).alloc (Nat.le_refl _) _).trans (hb1.mono (by simp)))
        rw [HU.out]
        clear hb1 HBR HU
        go_wp2_with fail
        refine (open_any u w1 (HT.out.later B1.out) HUS.out).mono ?_
        rintro e w2 ⟨rfl, hb2⟩
        have R2 := Lib.hid (blk_below R1.out hb2)
        have B2 := Lib.hid (B1.out.trans (hb2.mono B1.out.size))
        rw [HO.out]
        clear hb2 R1 B1 HO
        go_wp2_with fail
        refine (new_any _ w2).mono ?_
        rintro e w3 ⟨rfl, hs3, hb3⟩
        have R3 := Lib.hid (blk_below R2.out hb3)
        have B3 := Lib.hid (B2.out.trans (hb3.mono B2.out.size))
        have hg2 : w.heap.size < w2.heap.size := lt_of_block R2.out
        have H3 := Lib.hid hs3
        clear hs3 hb3 R2 B2
        go_wp2_with fail
        refine (HFX.out w3 _ H3.out).mono ?_
        rintro e w4 ⟨rfl, hs4, hk4⟩
        have R4 := Lib.hid (blk_but R3.out hk4 (by omega))
        have B4 := Lib.hid (But.below B3.out hk4 (by omega) B3.out.size)
        have H4 := Lib.hid hs4
        clear hs4 hk4 R3 B3 H3
        go_wp2_with fail
        refine (HN1.out w4 _ H4.out).mono ?_
        rintro e w5 ⟨rfl, hs5, hk5⟩
        have R5 := Lib.hid (blk_but R4.out hk5 (by omega))
        have B5 := Lib.hid (But.below B4.out hk5 (by omega) B4.out.size)
        have H5 := Lib.hid hs5
        clear hs5 hk5 R4 B4 H4
        go_wp2_with fail
        refine (HN2.out w5 _ H5.out).mono ?_
        rintro e w6 ⟨rfl, hs6, hk6⟩
        have R6 := Lib.hid (blk_but R5.out hk6 (by omega))
        have B6 := Lib.hid (But.below B5.out hk6 (by omega) B5.out.size)
        have H6 := Lib.hid hs6
        clear hs6 hk6 R5 B5 H5
        go_wp2_with fail
        refine (HN3.out w6 _ H6.out).mono ?_
        rintro e w7 ⟨rfl, hs7, hk7⟩
        have R7 := Lib.hid (blk_but R6.out hk7 (by omega))
        have B7 := Lib.hid (But.below B6.out hk7 (by omega) B6.out.size)
        have H7 := Lib.hid hs7
        clear hs7 hk7 R6 B6 H6
        go_wp2_with fail
        refine (HN4.out w7 _ H7.out).mono ?_
        rintro e w8 ⟨rfl, hs8, hk8⟩
        have R8 := Lib.hid (blk_but R7.out hk8 (by omega))
        have B8 := Lib.hid (But.below B7.out hk8 (by omega) B7.out.size)
        have H8 := Lib.hid hs8
        clear hs8 hk8 R7 B7 H7
        go_wp2_with fail
        refine (HEND.out (w8.alloc (.cells (hv a b c d) 48 (0, 0))) _ (H8.out.alloc _)).mono ?_
        rintro e w9 ⟨rfl, hs9, hk9⟩
        have G9 := Lib.hid (blk_but (blk_new w8 (.cells (hv a b c d) 48 (0, 0))) hk9 (by have := H8.out.lt; omega))
        have R9 := Lib.hid (blk_but ((Below.heap_alloc w8 (.cells (hv a b c d) 48 (0, 0)) _ (lt_of_block R8.out)).trans R8.out) hk9 (by omega))
        have B9 := Lib.hid (But.below (B8.out.alloc B8.out.size _) hk9 (by omega) (by have := B8.out.size; simp; omega))
        have hg8 : w.heap.size < w8.heap.size := lt_of_block R8.out
        clear hs9 hk9 R8 B8 H8
        go_wp2_with (refine wpList_store_rowY rfl 48 (.tmp 2) (.tmp 50) rfl w.heap.size (hv 0 0 0 0) rfl rfl 48 _ R9.out (info_head _ _ _ _) rfl (one_head _ _ _ _) w.heap.size w B9.out (Nat.le_refl _) ?_)
        intro W4 hb1 _ hbel _
        go_wp2_with fail
        refine bodyPost_ret (results_ctY rfl _ _ w.heap.size (hv 0 0 0 0) rfl (run_loadVar_row _ w.heap.size 48 48 _ (0, 0) _ hb1.out Tryd.underlying48 rfl (info_head _ _ _ _))) rfl ?_
        exact ⟨rfl, hbel.out⟩
    · have hsg : (f.toList == [112, 108, 101, 97, 99, 104]) = false := by
        rw [beq_eq_false_iff_ne]
        intro e
        apply hfs
        apply ba_ext
        rw [← ByteArray.toList_eq, e]
        rfl
      clear hfx hxz hfs hX hb hbt hub hse huz h hS
      go_enter Tryd.func34, Tryd.ntmps34
      go_wp2_with fail
      refine (HBR.out _).mono ?_
      rintro e w1 ⟨rfl, hb1⟩
      have R1 := Lib.hid (blk_below (blk_new w (.cells (hv 0 0 0 0) 48 (0, 0))) hb1)
      have B1 := Lib.hid (((Below.refl _ w).alloc (Nat.le_refl _) _).trans (hb1.mono (by simp)))
      rw [HU.out]
      clear hb1 HBR HU
      go_wp2_with fail
      refine (open_any u w1 (HT.out.later B1.out) HUS.out).mono ?_
      rintro e w2 ⟨rfl, hb2⟩
      have R2 := Lib.hid (blk_below R1.out hb2)
      have B2 := Lib.hid (B1.out.trans (hb2.mono B1.out.size))
      rw [HO.out]
      clear hb2 R1 B1 HO
      go_wp2_with fail
      refine (new_any _ w2).mono ?_
      rintro e w3 ⟨rfl, hs3, hb3⟩
      have R3 := Lib.hid (blk_below R2.out hb3)
      have B3 := Lib.hid (B2.out.trans (hb3.mono B2.out.size))
      have hg2 : w.heap.size < w2.heap.size := lt_of_block R2.out
      have H3 := Lib.hid hs3
      clear hs3 hb3 R2 B2
      go_wp2_with fail
      refine (HFX.out w3 _ H3.out).mono ?_
      rintro e w4 ⟨rfl, hs4, hk4⟩
      have R4 := Lib.hid (blk_but R3.out hk4 (by omega))
      have B4 := Lib.hid (But.below B3.out hk4 (by omega) B3.out.size)
      have H4 := Lib.hid hs4
      clear hs4 hk4 R3 B3 H3
      go_wp2_with (refine wpList_store_rowY rfl 48 (.tmp 2) (.tmp 30) rfl w.heap.size (hv 0 0 0 0) rfl rfl 48 _ R4.out (info_head _ _ _ _) rfl (one_head _ _ _ _) w.heap.size w B4.out (Nat.le_refl _) ?_)
      intro W4 hb1 _ hbel _
      go_wp2_with fail
      refine bodyPost_ret (results_ctY rfl _ _ w.heap.size (hv 0 0 0 0) rfl (run_loadVar_row _ w.heap.size 48 48 _ (0, 0) _ hb1.out Tryd.underlying48 rfl (info_head _ _ _ _))) rfl ?_
      exact ⟨rfl, hbel.out⟩
end Go.Proofs.YtcgoegehgcecpaaDoor
