/- The contracts of seat.Next and of the document's Next of layer 8 over this translation. No condition. -/
import Derived.Test.YtcgoegehgcecpaaDoorYj
namespace Go.Proofs.YtcgoegehgcecpaaDoor
open Go.RowKit Vi Cm

/-- what Next answers -/
def nxE (a b c d p n : Int) : Int := if hok a b c d = true then (if a = 4294967295 then 5 else if hok (a + 1) (1 - b) p n = true then 0 else 2) else 2
def nxH (a b c d p n : Int) : Array Value := if nxE a b c d p n = 0 then hv (a + 1) (1 - b) p n else hv 0 0 0 0
def nxV (a b c d p n : Int) : Value := .tuple #[.agg (nxH a b c d p n), .int .i64 (nxE a b c d p n)]
theorem nx_wrong {a b c d p n : Int} (h : hok a b c d = false) : nxV a b c d p n = .tuple #[.agg (hv 0 0 0 0), .int .i64 2] := by
  have e : nxE a b c d p n = 2 := by unfold nxE; rw [h]; rfl
  unfold nxV nxH; rw [e]; rfl
theorem nx_last {a b c d p n : Int} (h : hok a b c d = true) (ha : a = 4294967295) : nxV a b c d p n = .tuple #[.agg (hv 0 0 0 0), .int .i64 5] := by
  have e : nxE a b c d p n = 5 := by unfold nxE; rw [if_pos h, if_pos ha]
  unfold nxV nxH; rw [e]; rfl
theorem nx_not {a b c d p n : Int} (h : hok a b c d = true) (ha : a ≠ 4294967295) (h2 : hok (a + 1) (1 - b) p n = false) : nxV a b c d p n = .tuple #[.agg (hv 0 0 0 0), .int .i64 2] := by
  have e : nxE a b c d p n = 2 := by unfold nxE; rw [if_pos h, if_neg ha, if_neg (by rw [h2]; simp)]
  unfold nxV nxH; rw [e]; rfl
theorem nx_ok {a b c d p n : Int} (h : hok a b c d = true) (ha : a ≠ 4294967295) (h2 : hok (a + 1) (1 - b) p n = true) : nxV a b c d p n = .tuple #[.agg (hv (a + 1) (1 - b) p n), .int .i64 0] := by
  have e : nxE a b c d p n = 0 := by unfold nxE; rw [if_pos h, if_neg ha, if_pos h2]
  unfold nxV nxH; rw [e]; rfl
set_option maxHeartbeats 2000000 in
set_option maxRecDepth 100000 in
theorem next_any (a b c d p n : Int) (w : World) :
    Calls Tryd.prog 28 #[.agg #[.int .i64 a, .int .i64 b, .int .i64 c, .int .i64 d], .int .i64 p, .int .i64 n] w fun e w' => e = .returned (nxV a b c d p n) ∧ Below w.heap.size w w' := by
  have HCK := Lib.hid (fun W : World => hcheck_any a b c d W)
  cases h : hok a b c d with
  | false =>
    have HV := Lib.hid (nx_wrong (p := p) (n := n) h)
    rw [show errH a b c d = 2 by unfold errH; rw [h]; rfl] at HCK
    clear h
    go_enter Tryd.func28, Tryd.ntmps28
    go_wp2_with fail
    refine (HCK.out _).mono ?_
    rintro e w1 ⟨rfl, hb⟩
    have hsz : (w.alloc (.cells (hv a b c d) 48 (0, 0))).heap.size = w.heap.size + 1 := by simp
    have P1 := Lib.hid (blk_below (blk_alloc (blk_new w (.cells (hv a b c d) 48 (0, 0))) (.cells (hv 0 0 0 0) 48 (0, 0))) hb)
    have hr := blk_below (blk_new (w.alloc (.cells (hv a b c d) 48 (0, 0))) (.cells (hv 0 0 0 0) 48 (0, 0))) hb
    rw [hsz] at hr
    have R1 := Lib.hid hr
    have B1 := Lib.hid ((((Below.refl _ w).alloc (Nat.le_refl _) (.cells (hv a b c d) 48 (0, 0))).alloc (by simp) (.cells (hv 0 0 0 0) 48 (0, 0))).trans (hb.mono (by simp; omega)))
    clear hb hr hsz HCK
    go_wp2_with (refine wpList_store_rowY rfl 48 (.tmp 6) (.tmp 15) rfl (w.heap.size + 1) (hv 0 0 0 0) rfl rfl 48 _ R1.out (info_head _ _ _ _) rfl (one_head _ _ _ _) w.heap.size w B1.out (by omega) ?_)
    intro Wz hbk _ hbel _
    go_wp2_with fail
    rw [HV.out]
    refine bodyPost_ret (results_ctY rfl _ _ (w.heap.size + 1) (hv 0 0 0 0) rfl (run_loadVar_row _ (w.heap.size + 1) 48 48 _ (0, 0) _ hbk.out Tryd.underlying48 rfl (info_head _ _ _ _))) rfl ?_
    exact ⟨rfl, hbel.out⟩
  | true =>
    rw [show errH a b c d = 0 by unfold errH; rw [h]; rfl] at HCK
    have hbd := hok_bd h
    by_cases ha : a = 4294967295
    · have HV := Lib.hid (nx_last (p := p) (n := n) h ha)
      have hq : (a == 4294967295) = true := by rw [ha]; rfl
      clear h hbd ha
      go_enter Tryd.func28, Tryd.ntmps28
      go_wp2_with fail
      refine (HCK.out _).mono ?_
      rintro e w1 ⟨rfl, hb⟩
      have hsz : (w.alloc (.cells (hv a b c d) 48 (0, 0))).heap.size = w.heap.size + 1 := by simp
      have P1 := Lib.hid (blk_below (blk_alloc (blk_new w (.cells (hv a b c d) 48 (0, 0))) (.cells (hv 0 0 0 0) 48 (0, 0))) hb)
      have hr := blk_below (blk_new (w.alloc (.cells (hv a b c d) 48 (0, 0))) (.cells (hv 0 0 0 0) 48 (0, 0))) hb
      rw [hsz] at hr
      have R1 := Lib.hid hr
      have B1 := Lib.hid ((((Below.refl _ w).alloc (Nat.le_refl _) (.cells (hv a b c d) 48 (0, 0))).alloc (by simp) (.cells (hv 0 0 0 0) 48 (0, 0))).trans (hb.mono (by simp; omega)))
      clear hb hr hsz HCK
      have c0 : w1.cell? ⟨w.heap.size, 0, none⟩ = some (.int .i64 a) := by rw [cell_of_row _ _ _ _ _ _ P1.out]; rfl
      have c1 : w1.cell? ⟨w.heap.size, 1, none⟩ = some (.int .i64 b) := by rw [cell_of_row _ _ _ _ _ _ P1.out]; rfl
      go_wp2_with (refine wpList_store_rowY rfl 48 (.tmp 6) (.tmp 20) rfl (w.heap.size + 1) (hv 0 0 0 0) rfl rfl 48 _ R1.out (info_head _ _ _ _) rfl (one_head _ _ _ _) w.heap.size w B1.out (by omega) ?_)
      intro Wz hbk _ hbel _
      go_wp2_with fail
      rw [HV.out]
      refine bodyPost_ret (results_ctY rfl _ _ (w.heap.size + 1) (hv 0 0 0 0) rfl (run_loadVar_row _ (w.heap.size + 1) 48 48 _ (0, 0) _ hbk.out Tryd.underlying48 rfl (info_head _ _ _ _))) rfl ?_
      exact ⟨rfl, hbel.out⟩
    · have hq : (a == 4294967295) = false := by simpa using ha
      have HCK2 := Lib.hid (fun W : World => hcheck_any (a + 1) (1 - b) p n W)
      have a0 : 0 ≤ a := by omega
      have a1 : a ≤ 4294967294 := by omega
      have b0 : 0 ≤ b := by omega
      have b1 : b ≤ 1 := by omega
      cases h2 : hok (a + 1) (1 - b) p n with
      | false =>
        have HV := Lib.hid (nx_not h ha h2)
        rw [show errH (a + 1) (1 - b) p n = 2 by unfold errH; rw [h2]; rfl] at HCK2
        clear h hbd ha h2
        go_enter Tryd.func28, Tryd.ntmps28
        go_wp2_with fail
        refine (HCK.out _).mono ?_
        rintro e w1 ⟨rfl, hb⟩
        have hsz : (w.alloc (.cells (hv a b c d) 48 (0, 0))).heap.size = w.heap.size + 1 := by simp
        have P1 := Lib.hid (blk_below (blk_alloc (blk_new w (.cells (hv a b c d) 48 (0, 0))) (.cells (hv 0 0 0 0) 48 (0, 0))) hb)
        have hr := blk_below (blk_new (w.alloc (.cells (hv a b c d) 48 (0, 0))) (.cells (hv 0 0 0 0) 48 (0, 0))) hb
        rw [hsz] at hr
        have R1 := Lib.hid hr
        have B1 := Lib.hid ((((Below.refl _ w).alloc (Nat.le_refl _) (.cells (hv a b c d) 48 (0, 0))).alloc (by simp) (.cells (hv 0 0 0 0) 48 (0, 0))).trans (hb.mono (by simp; omega)))
        clear hb hr hsz HCK
        have c0 : w1.cell? ⟨w.heap.size, 0, none⟩ = some (.int .i64 a) := by rw [cell_of_row _ _ _ _ _ _ P1.out]; rfl
        have c1 : w1.cell? ⟨w.heap.size, 1, none⟩ = some (.int .i64 b) := by rw [cell_of_row _ _ _ _ _ _ P1.out]; rfl
        go_wp2_with fail
        refine (HCK2.out (w1.alloc (.cells (hv (a + 1) (1 - b) p n) 48 (0, 0)))).mono ?_
        rintro e w2 ⟨rfl, hb⟩
        have G2 := Lib.hid (blk_below (blk_new w1 (.cells (hv (a + 1) (1 - b) p n) 48 (0, 0))) hb)
        have R2 := Lib.hid (blk_below (blk_alloc R1.out (.cells (hv (a + 1) (1 - b) p n) 48 (0, 0))) hb)
        have B2 := Lib.hid ((B1.out.alloc B1.out.size (.cells (hv (a + 1) (1 - b) p n) 48 (0, 0))).trans (hb.mono (by have := B1.out.size; simp; omega)))
        clear hb HCK2 c0 c1 P1 R1 B1
        go_wp2_with (refine wpList_store_rowY rfl 48 (.tmp 6) (.tmp 34) rfl (w.heap.size + 1) (hv 0 0 0 0) rfl rfl 48 _ R2.out (info_head _ _ _ _) rfl (one_head _ _ _ _) w.heap.size w B2.out (by omega) ?_)
        intro Wz hbk _ hbel _
        go_wp2_with fail
        rw [HV.out]
        refine bodyPost_ret (results_ctY rfl _ _ (w.heap.size + 1) (hv 0 0 0 0) rfl (run_loadVar_row _ (w.heap.size + 1) 48 48 _ (0, 0) _ hbk.out Tryd.underlying48 rfl (info_head _ _ _ _))) rfl ?_
        exact ⟨rfl, hbel.out⟩
      | true =>
        have HV := Lib.hid (nx_ok h ha h2)
        rw [show errH (a + 1) (1 - b) p n = 0 by unfold errH; rw [h2]; rfl] at HCK2
        clear h hbd ha h2
        go_enter Tryd.func28, Tryd.ntmps28
        go_wp2_with fail
        refine (HCK.out _).mono ?_
        rintro e w1 ⟨rfl, hb⟩
        have hsz : (w.alloc (.cells (hv a b c d) 48 (0, 0))).heap.size = w.heap.size + 1 := by simp
        have P1 := Lib.hid (blk_below (blk_alloc (blk_new w (.cells (hv a b c d) 48 (0, 0))) (.cells (hv 0 0 0 0) 48 (0, 0))) hb)
        have hr := blk_below (blk_new (w.alloc (.cells (hv a b c d) 48 (0, 0))) (.cells (hv 0 0 0 0) 48 (0, 0))) hb
        rw [hsz] at hr
        have R1 := Lib.hid hr
        have B1 := Lib.hid ((((Below.refl _ w).alloc (Nat.le_refl _) (.cells (hv a b c d) 48 (0, 0))).alloc (by simp) (.cells (hv 0 0 0 0) 48 (0, 0))).trans (hb.mono (by simp; omega)))
        clear hb hr hsz HCK
        have c0 : w1.cell? ⟨w.heap.size, 0, none⟩ = some (.int .i64 a) := by rw [cell_of_row _ _ _ _ _ _ P1.out]; rfl
        have c1 : w1.cell? ⟨w.heap.size, 1, none⟩ = some (.int .i64 b) := by rw [cell_of_row _ _ _ _ _ _ P1.out]; rfl
        go_wp2_with fail
        refine (HCK2.out (w1.alloc (.cells (hv (a + 1) (1 - b) p n) 48 (0, 0)))).mono ?_
        rintro e w2 ⟨rfl, hb⟩
        have G2 := Lib.hid (blk_below (blk_new w1 (.cells (hv (a + 1) (1 - b) p n) 48 (0, 0))) hb)
        have R2 := Lib.hid (blk_below (blk_alloc R1.out (.cells (hv (a + 1) (1 - b) p n) 48 (0, 0))) hb)
        have B2 := Lib.hid ((B1.out.alloc B1.out.size (.cells (hv (a + 1) (1 - b) p n) 48 (0, 0))).trans (hb.mono (by have := B1.out.size; simp; omega)))
        clear hb HCK2 c0 c1 P1 R1 B1
        go_wp2_with (first
          | refine wpList_load_row rfl 48 (.tmp 9) rfl w1.heap.size rfl 48 (hv (a + 1) (1 - b) p n) (0, 0) _ G2.out Tryd.underlying48 rfl (info_head _ _ _ _) ?_
          | refine wpList_store_rowY rfl 48 (.tmp 6) (.tmp 36) rfl (w.heap.size + 1) (hv (a + 1) (1 - b) p n) rfl rfl 48 _ R2.out (info_head _ _ _ _) rfl (one_head _ _ _ _) w.heap.size w B2.out (by omega) ?_)
        intro Wz hbk _ hbel _
        go_wp2_with fail
        rw [HV.out]
        refine bodyPost_ret (results_ctY rfl _ _ (w.heap.size + 1) (hv (a + 1) (1 - b) p n) rfl (run_loadVar_row _ (w.heap.size + 1) 48 48 _ (0, 0) _ hbk.out Tryd.underlying48 rfl (info_head _ _ _ _))) rfl ?_
        exact ⟨rfl, hbel.out⟩
set_option maxHeartbeats 2000000 in
set_option maxRecDepth 100000 in
theorem rnext_any (a b c d p n : Int) (w : World) :
    Calls Tryd.prog 29 #[.agg #[.int .i64 a, .int .i64 b, .int .i64 c, .int .i64 d], .int .i64 p, .int .i64 n] w fun e w' => e = .returned (nxV a b c d p n) ∧ Below w.heap.size w w' := by
  have HCK := Lib.hid (fun W : World => his_any a b c d W)
  cases h : hok a b c d with
  | false =>
    have HV := Lib.hid (nx_wrong (p := p) (n := n) h)
    rw [h] at HCK
    clear h
    go_enter Tryd.func29, Tryd.ntmps29
    go_wp2_with fail
    refine (HCK.out _).mono ?_
    rintro e w1 ⟨rfl, hb⟩
    have hsz : (w.alloc (.cells (hv a b c d) 48 (0, 0))).heap.size = w.heap.size + 1 := by simp
    have P1 := Lib.hid (blk_below (blk_alloc (blk_new w (.cells (hv a b c d) 48 (0, 0))) (.cells (hv 0 0 0 0) 48 (0, 0))) hb)
    have hr := blk_below (blk_new (w.alloc (.cells (hv a b c d) 48 (0, 0))) (.cells (hv 0 0 0 0) 48 (0, 0))) hb
    rw [hsz] at hr
    have R1 := Lib.hid hr
    have B1 := Lib.hid ((((Below.refl _ w).alloc (Nat.le_refl _) (.cells (hv a b c d) 48 (0, 0))).alloc (by simp) (.cells (hv 0 0 0 0) 48 (0, 0))).trans (hb.mono (by simp; omega)))
    clear hb hr hsz HCK
    go_wp2_with (refine wpList_store_rowY rfl 48 (.tmp 6) (.tmp 12) rfl (w.heap.size + 1) (hv 0 0 0 0) rfl rfl 48 _ R1.out (info_head _ _ _ _) rfl (one_head _ _ _ _) w.heap.size w B1.out (by omega) ?_)
    intro Wz hbk _ hbel _
    go_wp2_with fail
    rw [HV.out]
    refine bodyPost_ret (results_ctY rfl _ _ (w.heap.size + 1) (hv 0 0 0 0) rfl (run_loadVar_row _ (w.heap.size + 1) 48 48 _ (0, 0) _ hbk.out Tryd.underlying48 rfl (info_head _ _ _ _))) rfl ?_
    exact ⟨rfl, hbel.out⟩
  | true =>
    rw [h] at HCK
    have hbd := hok_bd h
    by_cases ha : a = 4294967295
    · have HV := Lib.hid (nx_last (p := p) (n := n) h ha)
      have hq : (a == 4294967295) = true := by rw [ha]; rfl
      clear h hbd ha
      go_enter Tryd.func29, Tryd.ntmps29
      go_wp2_with fail
      refine (HCK.out _).mono ?_
      rintro e w1 ⟨rfl, hb⟩
      have hsz : (w.alloc (.cells (hv a b c d) 48 (0, 0))).heap.size = w.heap.size + 1 := by simp
      have P1 := Lib.hid (blk_below (blk_alloc (blk_new w (.cells (hv a b c d) 48 (0, 0))) (.cells (hv 0 0 0 0) 48 (0, 0))) hb)
      have hr := blk_below (blk_new (w.alloc (.cells (hv a b c d) 48 (0, 0))) (.cells (hv 0 0 0 0) 48 (0, 0))) hb
      rw [hsz] at hr
      have R1 := Lib.hid hr
      have B1 := Lib.hid ((((Below.refl _ w).alloc (Nat.le_refl _) (.cells (hv a b c d) 48 (0, 0))).alloc (by simp) (.cells (hv 0 0 0 0) 48 (0, 0))).trans (hb.mono (by simp; omega)))
      clear hb hr hsz HCK
      have c0 : w1.cell? ⟨w.heap.size, 0, none⟩ = some (.int .i64 a) := by rw [cell_of_row _ _ _ _ _ _ P1.out]; rfl
      have c1 : w1.cell? ⟨w.heap.size, 1, none⟩ = some (.int .i64 b) := by rw [cell_of_row _ _ _ _ _ _ P1.out]; rfl
      go_wp2_with (refine wpList_store_rowY rfl 48 (.tmp 6) (.tmp 16) rfl (w.heap.size + 1) (hv 0 0 0 0) rfl rfl 48 _ R1.out (info_head _ _ _ _) rfl (one_head _ _ _ _) w.heap.size w B1.out (by omega) ?_)
      intro Wz hbk _ hbel _
      go_wp2_with fail
      rw [HV.out]
      refine bodyPost_ret (results_ctY rfl _ _ (w.heap.size + 1) (hv 0 0 0 0) rfl (run_loadVar_row _ (w.heap.size + 1) 48 48 _ (0, 0) _ hbk.out Tryd.underlying48 rfl (info_head _ _ _ _))) rfl ?_
      exact ⟨rfl, hbel.out⟩
    · have hq : (a == 4294967295) = false := by simpa using ha
      have HCK2 := Lib.hid (fun W : World => his_any (a + 1) (1 - b) p n W)
      have a0 : 0 ≤ a := by omega
      have a1 : a ≤ 4294967294 := by omega
      have b0 : 0 ≤ b := by omega
      have b1 : b ≤ 1 := by omega
      cases h2 : hok (a + 1) (1 - b) p n with
      | false =>
        have HV := Lib.hid (nx_not h ha h2)
        rw [h2] at HCK2
        clear h hbd ha h2
        go_enter Tryd.func29, Tryd.ntmps29
        go_wp2_with fail
        refine (HCK.out _).mono ?_
        rintro e w1 ⟨rfl, hb⟩
        have hsz : (w.alloc (.cells (hv a b c d) 48 (0, 0))).heap.size = w.heap.size + 1 := by simp
        have P1 := Lib.hid (blk_below (blk_alloc (blk_new w (.cells (hv a b c d) 48 (0, 0))) (.cells (hv 0 0 0 0) 48 (0, 0))) hb)
        have hr := blk_below (blk_new (w.alloc (.cells (hv a b c d) 48 (0, 0))) (.cells (hv 0 0 0 0) 48 (0, 0))) hb
        rw [hsz] at hr
        have R1 := Lib.hid hr
        have B1 := Lib.hid ((((Below.refl _ w).alloc (Nat.le_refl _) (.cells (hv a b c d) 48 (0, 0))).alloc (by simp) (.cells (hv 0 0 0 0) 48 (0, 0))).trans (hb.mono (by simp; omega)))
        clear hb hr hsz HCK
        have c0 : w1.cell? ⟨w.heap.size, 0, none⟩ = some (.int .i64 a) := by rw [cell_of_row _ _ _ _ _ _ P1.out]; rfl
        have c1 : w1.cell? ⟨w.heap.size, 1, none⟩ = some (.int .i64 b) := by rw [cell_of_row _ _ _ _ _ _ P1.out]; rfl
        go_wp2_with fail
        refine (HCK2.out (w1.alloc (.cells (hv (a + 1) (1 - b) p n) 48 (0, 0)))).mono ?_
        rintro e w2 ⟨rfl, hb⟩
        have G2 := Lib.hid (blk_below (blk_new w1 (.cells (hv (a + 1) (1 - b) p n) 48 (0, 0))) hb)
        have R2 := Lib.hid (blk_below (blk_alloc R1.out (.cells (hv (a + 1) (1 - b) p n) 48 (0, 0))) hb)
        have B2 := Lib.hid ((B1.out.alloc B1.out.size (.cells (hv (a + 1) (1 - b) p n) 48 (0, 0))).trans (hb.mono (by have := B1.out.size; simp; omega)))
        clear hb HCK2 c0 c1 P1 R1 B1
        go_wp2_with (refine wpList_store_rowY rfl 48 (.tmp 6) (.tmp 29) rfl (w.heap.size + 1) (hv 0 0 0 0) rfl rfl 48 _ R2.out (info_head _ _ _ _) rfl (one_head _ _ _ _) w.heap.size w B2.out (by omega) ?_)
        intro Wz hbk _ hbel _
        go_wp2_with fail
        rw [HV.out]
        refine bodyPost_ret (results_ctY rfl _ _ (w.heap.size + 1) (hv 0 0 0 0) rfl (run_loadVar_row _ (w.heap.size + 1) 48 48 _ (0, 0) _ hbk.out Tryd.underlying48 rfl (info_head _ _ _ _))) rfl ?_
        exact ⟨rfl, hbel.out⟩
      | true =>
        have HV := Lib.hid (nx_ok h ha h2)
        rw [h2] at HCK2
        clear h hbd ha h2
        go_enter Tryd.func29, Tryd.ntmps29
        go_wp2_with fail
        refine (HCK.out _).mono ?_
        rintro e w1 ⟨rfl, hb⟩
        have hsz : (w.alloc (.cells (hv a b c d) 48 (0, 0))).heap.size = w.heap.size + 1 := by simp
        have P1 := Lib.hid (blk_below (blk_alloc (blk_new w (.cells (hv a b c d) 48 (0, 0))) (.cells (hv 0 0 0 0) 48 (0, 0))) hb)
        have hr := blk_below (blk_new (w.alloc (.cells (hv a b c d) 48 (0, 0))) (.cells (hv 0 0 0 0) 48 (0, 0))) hb
        rw [hsz] at hr
        have R1 := Lib.hid hr
        have B1 := Lib.hid ((((Below.refl _ w).alloc (Nat.le_refl _) (.cells (hv a b c d) 48 (0, 0))).alloc (by simp) (.cells (hv 0 0 0 0) 48 (0, 0))).trans (hb.mono (by simp; omega)))
        clear hb hr hsz HCK
        have c0 : w1.cell? ⟨w.heap.size, 0, none⟩ = some (.int .i64 a) := by rw [cell_of_row _ _ _ _ _ _ P1.out]; rfl
        have c1 : w1.cell? ⟨w.heap.size, 1, none⟩ = some (.int .i64 b) := by rw [cell_of_row _ _ _ _ _ _ P1.out]; rfl
        go_wp2_with fail
        refine (HCK2.out (w1.alloc (.cells (hv (a + 1) (1 - b) p n) 48 (0, 0)))).mono ?_
        rintro e w2 ⟨rfl, hb⟩
        have G2 := Lib.hid (blk_below (blk_new w1 (.cells (hv (a + 1) (1 - b) p n) 48 (0, 0))) hb)
        have R2 := Lib.hid (blk_below (blk_alloc R1.out (.cells (hv (a + 1) (1 - b) p n) 48 (0, 0))) hb)
        have B2 := Lib.hid ((B1.out.alloc B1.out.size (.cells (hv (a + 1) (1 - b) p n) 48 (0, 0))).trans (hb.mono (by have := B1.out.size; simp; omega)))
        clear hb HCK2 c0 c1 P1 R1 B1
        go_wp2_with (first
          | refine wpList_load_row rfl 48 (.tmp 8) rfl w1.heap.size rfl 48 (hv (a + 1) (1 - b) p n) (0, 0) _ G2.out Tryd.underlying48 rfl (info_head _ _ _ _) ?_
          | refine wpList_store_rowY rfl 48 (.tmp 6) (.tmp 30) rfl (w.heap.size + 1) (hv (a + 1) (1 - b) p n) rfl rfl 48 _ R2.out (info_head _ _ _ _) rfl (one_head _ _ _ _) w.heap.size w B2.out (by omega) ?_)
        intro Wz hbk _ hbel _
        go_wp2_with fail
        rw [HV.out]
        refine bodyPost_ret (results_ctY rfl _ _ (w.heap.size + 1) (hv (a + 1) (1 - b) p n) rfl (run_loadVar_row _ (w.heap.size + 1) 48 48 _ (0, 0) _ hbk.out Tryd.underlying48 rfl (info_head _ _ _ _))) rfl ?_
        exact ⟨rfl, hbel.out⟩
end Go.Proofs.YtcgoegehgcecpaaDoor
