/- The contract of the document's Take of layer 8 over this translation. Condition: texts of at most a thousand bytes. -/
import Derived.Test.YtcgoegehgcecpaaDoorYh
namespace Go.Proofs.YtcgoegehgcecpaaDoor
open Go.RowKit Vi Cm

/-- a Scan of the document's in memory -/
def scv (S : ByteArray) (q : Nat) (er : Int) : Array Value := #[.string S, .int .i64 (q : Int), .int .i64 er]
theorem info_scv (S : ByteArray) (q : Nat) (er : Int) : (Tryd.prog.info? 34).map (·.size) = some (scv S q er).size := by kernel_rfl
theorem one_scv (S : ByteArray) (q : Nat) (er : Int) : (scv S q er).all (·.oneCell') = true := by simp [scv, Value.oneCell']
theorem sv_scv (S : ByteArray) (q : Nat) (er : Int) : sv S q er = .agg (scv S q er) := rfl
theorem rnum_scv (S : ByteArray) (q : Nat) (er n v : Int) (q' : Nat) (er' : Int) (w : World) (hS : S.size ≤ 1000000) (hq : q ≤ S.size) (hn0 : -9223372036854775808 ≤ n) (hn1 : n ≤ 9223372036854775807) (h : Rd.num S q er n = (v, q', er')) :
    Calls Tryd.prog 81 #[.agg (scv S q er), .int .i64 n] w fun e w' => e = .returned (.tuple #[.agg (scv S q' er'), .int .i64 v]) ∧ Below w.heap.size w w' := by
  have h1 := rNum_any S q er n w hS hq hn0 hn1
  rw [h] at h1
  exact h1
theorem blk_oth {W W' : World} {b g : Nat} {o : Obj} (h : W.heap[b]? = some o) (ho : ∀ k, k ≠ g → W'.heap[k]? = W.heap[k]?) (hne : b ≠ g) : W'.heap[b]? = some o := (ho b hne).trans h
theorem blk_alloc {W : World} {b : Nat} {o : Obj} (h : W.heap[b]? = some o) (p : Obj) : (W.alloc p).heap[b]? = some o := (Below.heap_alloc W p b (lt_of_block h)).trans h
set_option maxHeartbeats 2000000 in
set_option maxRecDepth 100000 in
theorem rtake_yes (a b c d : Int) (w : World) (h : hok a b c d = true) :
    Calls Tryd.prog 35 #[.string (headS a b c d)] w fun e w' => e = .returned (.tuple #[.agg (hv a b c d), .bool true]) ∧ Below w.heap.size w w' := by
  have hf := head_front a b c d
  have HBR := Lib.hid (fun W : World => rbare_any (headS a b c d) W (by rw [head_size]; omega))
  obtain ⟨u, hu⟩ : ∃ u, u = sealH (bodyH a b c d) := ⟨_, rfl⟩
  have HU := Lib.hid (show rbareV (headS a b c d) = .tuple #[.string u, .bool true] by unfold rbareV; rw [hf.1, hf.2, hu]; rfl)
  have hbz := bodyH_size a b c d
  have hbd := hok_bd h
  obtain ⟨a', b', c', d', ra, rb, rc, rd⟩ := hok_nat h
  have hul : u.data.toList = signS.data.toList ++ (put a' ++ (put b' ++ (put c' ++ (put d' ++ tl (on 0 (bodyH a b c d).data.toList))))) := by
    rw [hu]
    unfold sealH
    rw [ba_app, ra, rb, rc, rd, body_list]
    simp
  have huz : 6 ≤ u.size := by
    have := congrArg List.length hul
    rw [ba_len, List.length_append] at this
    have h6 : signS.data.toList.length = 6 := rfl
    omega
  have huz2 : u.size ≤ 1000 := by rw [hu, sealH_size]; omega
  obtain ⟨Y, hY⟩ : ∃ Y, Y = u.extract 6 u.size := ⟨_, rfl⟩
  have hYl : Y.data.toList.drop 0 = put a' ++ (put b' ++ (put c' ++ (put d' ++ tl (on 0 (bodyH a b c d).data.toList)))) := by
    rw [hY, List.drop_zero, ba_from, hul, show (6 : Nat) = signS.data.toList.length from rfl, List.drop_left]
  have hYz : Y.size ≤ 1000 := by rw [hY, ByteArray.size_extract]; omega
  obtain ⟨q1, q2, q3, q4, g1, g2, g3, g4, _⟩ := four_is Y 0 a' b' c' d' 4294967296 4294967296 4294967296 4294967296 _ hYl (by omega) (by omega) (by omega) (by omega) (by omega) (by omega) (by omega) (by omega)
  rw [← ra] at g1
  rw [← rb] at g2
  rw [← rc] at g3
  rw [← rd] at g4
  have l1 := Rd.num_le Y 0 0 4294967296 (Nat.zero_le _)
  rw [g1] at l1
  have l2 := Rd.num_le Y q1 0 4294967296 l1
  rw [g2] at l2
  have l3 := Rd.num_le Y q2 0 4294967296 l2
  rw [g3] at l3
  dsimp only at l1 l2 l3
  have HN1 := Lib.hid (fun W : World => rnum_scv Y 0 0 4294967296 _ _ _ W (by omega) (Nat.zero_le _) (by omega) (by omega) g1)
  have HN2 := Lib.hid (fun W : World => rnum_scv Y q1 0 4294967296 _ _ _ W (by omega) l1 (by omega) (by omega) g2)
  have HN3 := Lib.hid (fun W : World => rnum_scv Y q2 0 4294967296 _ _ _ W (by omega) l2 (by omega) (by omega) g3)
  have HN4 := Lib.hid (fun W : World => rnum_scv Y q3 0 4294967296 _ _ _ W (by omega) l3 (by omega) (by omega) g4)
  have HIS := Lib.hid (fun W : World => his_any a b c d W)
  rw [h] at HIS
  have HPT := Lib.hid (fun W : World => rputH_any a b c d W (by omega) (by omega) (by omega) (by omega))
  rw [show headD a b c d = headS a b c d by unfold headD; rw [if_pos h]] at HPT
  generalize headS a b c d = S at HBR HU HPT ⊢
  obtain ⟨e1, he1⟩ : ∃ e1 : Int, e1 = 0 := ⟨_, rfl⟩
  have hss : (S.toList == S.toList) = true := by simp
  have hd6 : decide ((u.size : Int) < 6) = false := decide_eq_false (by omega)
  have hd6' : decide (u.size < 6) = false := decide_eq_false (by omega)
  have hlm : u.size ≤ maxLen := by unfold maxLen; omega
  clear hf hu hbz hbd ra rb rc rd hul hYl hYz g1 g2 g3 g4 l1 l2 l3 h he1
  subst hY
  generalize hYY : u.extract 6 u.size = Y at HN1 HN2 HN3 HN4
  have HYY := Lib.hid hYY
  subst hYY
  go_enter Tryd.func35, Tryd.ntmps35
  go_wp2_with fail
  refine (HBR.out _).mono ?_
  rintro e w1 ⟨rfl, hb1⟩
  have R1 := Lib.hid (blk_below (blk_new w (.cells (hv 0 0 0 0) 48 (0, 0))) hb1)
  have B1 := Lib.hid (((Below.refl _ w).alloc (Nat.le_refl _) _).trans (hb1.mono (by simp)))
  rw [HU.out]
  clear hb1 HBR HU
  go_wp2_with fail
  refine (HN1.out w1).mono ?_
  rintro e w2 ⟨rfl, hb2⟩
  have RV := Lib.hid (blk_alloc (blk_below R1.out hb2) (.cells #[.string ⟨#[]⟩, .int .i64 0, .int .i64 0] 34 (0, 0)))
  have SV := Lib.hid (blk_new w2 (.cells #[.string ⟨#[]⟩, .int .i64 0, .int .i64 0] 34 (0, 0)))
  have hg : w.heap.size < w2.heap.size := lt_of_block (blk_below R1.out hb2)
  have BV := Lib.hid ((B1.out.trans (hb2.mono B1.out.size)).alloc (B1.out.trans (hb2.mono B1.out.size)).size (.cells #[.string ⟨#[]⟩, .int .i64 0, .int .i64 0] 34 (0, 0)))
  clear hb2 R1 B1 HN1
  go_wp2_with (refine wpList_store_rowY rfl 34 (.tmp 6) (.tmp 30) rfl w2.heap.size (scv (u.extract 6 u.size) q1 0) rfl rfl 34 _ SV.out (info_scv _ _ _) rfl (one_scv _ _ _) w.heap.size w BV.out (by omega) ?_)
  intro W1 hbk hoth hbel _
  have R2 := Lib.hid (blk_oth RV.out hoth.out (by omega))
  have S2 := Lib.hid hbk.out
  have B2 := Lib.hid hbel.out
  clear hbk hoth hbel RV SV BV
  go_wp2_with (refine wpList_load_row rfl 34 (.tmp 6) rfl w2.heap.size rfl 34 (scv (u.extract 6 u.size) q1 0) (0, 0) _ S2.out Tryd.underlying34 rfl (info_scv _ _ _) ?_)
  refine (HN2.out W1).mono ?_
  rintro e V2 ⟨rfl, hb⟩
  have RV := Lib.hid (blk_below R2.out hb)
  have SV := Lib.hid (blk_below S2.out hb)
  have BV := Lib.hid (B2.out.trans (hb.mono B2.out.size))
  clear hb R2 S2 B2 HN2
  go_wp2_with (refine wpList_store_rowY rfl 34 (.tmp 6) (.tmp 35) rfl w2.heap.size (scv (u.extract 6 u.size) q2 0) rfl rfl 34 _ SV.out (info_scv _ _ _) rfl (one_scv _ _ _) w.heap.size w BV.out (by omega) ?_)
  intro W2 hbk hoth hbel _
  have R3 := Lib.hid (blk_oth RV.out hoth.out (by omega))
  have S3 := Lib.hid hbk.out
  have B3 := Lib.hid hbel.out
  clear hbk hoth hbel RV SV BV
  go_wp2_with (refine wpList_load_row rfl 34 (.tmp 6) rfl w2.heap.size rfl 34 (scv (u.extract 6 u.size) q2 0) (0, 0) _ S3.out Tryd.underlying34 rfl (info_scv _ _ _) ?_)
  refine (HN3.out W2).mono ?_
  rintro e V3 ⟨rfl, hb⟩
  have RV := Lib.hid (blk_below R3.out hb)
  have SV := Lib.hid (blk_below S3.out hb)
  have BV := Lib.hid (B3.out.trans (hb.mono B3.out.size))
  clear hb R3 S3 B3 HN3
  go_wp2_with (refine wpList_store_rowY rfl 34 (.tmp 6) (.tmp 40) rfl w2.heap.size (scv (u.extract 6 u.size) q3 0) rfl rfl 34 _ SV.out (info_scv _ _ _) rfl (one_scv _ _ _) w.heap.size w BV.out (by omega) ?_)
  intro W3 hbk hoth hbel _
  have R4 := Lib.hid (blk_oth RV.out hoth.out (by omega))
  have S4 := Lib.hid hbk.out
  have B4 := Lib.hid hbel.out
  clear hbk hoth hbel RV SV BV
  go_wp2_with (refine wpList_load_row rfl 34 (.tmp 6) rfl w2.heap.size rfl 34 (scv (u.extract 6 u.size) q3 0) (0, 0) _ S4.out Tryd.underlying34 rfl (info_scv _ _ _) ?_)
  refine (HN4.out W3).mono ?_
  rintro e V4 ⟨rfl, hb⟩
  have RV := Lib.hid (blk_below R4.out hb)
  have SV := Lib.hid (blk_below S4.out hb)
  have BV := Lib.hid (B4.out.trans (hb.mono B4.out.size))
  clear hb R4 S4 B4 HN4
  go_wp2_with (refine wpList_store_rowY rfl 34 (.tmp 6) (.tmp 45) rfl w2.heap.size (scv (u.extract 6 u.size) q4 0) rfl rfl 34 _ SV.out (info_scv _ _ _) rfl (one_scv _ _ _) w.heap.size w BV.out (by omega) ?_)
  intro W4 hbk hoth hbel _
  have R5 := Lib.hid (blk_oth RV.out hoth.out (by omega))
  have S5 := Lib.hid hbk.out
  have B5 := Lib.hid hbel.out
  clear hbk hoth hbel RV SV BV
  have f2 : W4.cell? ⟨w2.heap.size, 2, none⟩ = some (.int .i64 0) := by rw [cell_of_row _ _ _ _ _ _ S5.out]; rfl
  obtain ⟨W5, hW5⟩ : ∃ W, W = W4.alloc (.cells (hv a b c d) 48 (0, 0)) := ⟨_, rfl⟩
  have HW5 := Lib.hid hW5
  have f3 : (W4.alloc (.cells #[.int .i64 a, .int .i64 b, .int .i64 c, .int .i64 d] 48 (0, 0))).cell? ⟨w2.heap.size, 2, none⟩ = some (.int .i64 0) := by rw [cell_of_row _ _ _ _ _ _ (blk_alloc S5.out _)]; rfl
  have f4 : w2.heap.size < W4.heap.size := lt_of_block S5.out
  have f5 : ¬ w2.heap.size = W4.heap.size := by omega
  have R6 := Lib.hid (show W5.heap[w.heap.size]? = some (.cells (hv 0 0 0 0) 48 (0, 0)) by rw [hW5]; exact blk_alloc R5.out _)
  have G6 := Lib.hid (show W5.heap[W4.heap.size]? = some (.cells (hv a b c d) 48 (0, 0)) by rw [hW5]; exact blk_new W4 _)
  have B6 := Lib.hid (show Below w.heap.size w W5 by rw [hW5]; exact B5.out.alloc B5.out.size _)
  clear hW5 R5 S5 B5
  go_wp2_with fail
  refine (HIS.out (W4.alloc (.cells (hv a b c d) 48 (0, 0)))).mono ?_
  rintro e V6 ⟨rfl, hb⟩
  rw [← HW5.out] at hb
  have R7 := Lib.hid (blk_below R6.out hb)
  have G7 := Lib.hid (blk_below G6.out hb)
  have B7 := Lib.hid (B6.out.trans (hb.mono B6.out.size))
  clear hb R6 G6 B6 f2 f3 f4 f5 HW5
  have c0 : V6.cell? ⟨W4.heap.size, 0, none⟩ = some (.int .i64 a) := by rw [cell_of_row _ _ _ _ _ _ G7.out]; rfl
  have c1 : V6.cell? ⟨W4.heap.size, 1, none⟩ = some (.int .i64 b) := by rw [cell_of_row _ _ _ _ _ _ G7.out]; rfl
  have c2 : V6.cell? ⟨W4.heap.size, 2, none⟩ = some (.int .i64 c) := by rw [cell_of_row _ _ _ _ _ _ G7.out]; rfl
  have c3 : V6.cell? ⟨W4.heap.size, 3, none⟩ = some (.int .i64 d) := by rw [cell_of_row _ _ _ _ _ _ G7.out]; rfl
  go_wp2_with fail
  refine (HPT.out V6).mono ?_
  rintro e V7 ⟨rfl, hb⟩
  have R8 := Lib.hid (blk_below R7.out hb)
  have G8 := Lib.hid (blk_below G7.out hb)
  have B8 := Lib.hid (B7.out.trans (hb.mono B7.out.size))
  clear hb R7 G7 B7 c0 c1 c2 c3
  go_wp2_with (first
    | refine wpList_load_row rfl 48 (.tmp 11) rfl W4.heap.size rfl 48 (hv a b c d) (0, 0) _ G8.out Tryd.underlying48 rfl (info_head _ _ _ _) ?_
    | refine wpList_store_rowY rfl 48 (.tmp 2) (.tmp 67) rfl w.heap.size (hv a b c d) rfl rfl 48 _ R8.out (info_head _ _ _ _) rfl (one_head _ _ _ _) w.heap.size w B8.out (Nat.le_refl _) ?_)
  intro Wz hbk _ hbel _
  go_wp2_with fail
  refine bodyPost_ret (results_ctY rfl _ _ w.heap.size (hv a b c d) rfl (run_loadVar_row _ w.heap.size 48 48 _ (0, 0) _ hbk.out Tryd.underlying48 rfl (info_head _ _ _ _))) rfl ?_
  exact ⟨rfl, hbel.out⟩
end Go.Proofs.YtcgoegehgcecpaaDoor
