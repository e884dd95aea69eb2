/- The contract of the document's Take of layer 10 over this translation: of a record's sector that record, of any other text none. Conditions: texts of at most a thousand bytes. -/
import Derived.Test.YtpiafgdbjpfcaaaDoorEt
import Derived.Test.YtpiafgdbjpfcaaaDoorEf
import Derived.Test.YtpiafgdbjpfcaaaDoorCa
namespace Go.Proofs.YtpiafgdbjpfcaaaDoor
open Go.RowKit Vi Cm

theorem info_scE (a b c : Value) : (Tryd.prog.info? 70).map (·.size) = some (#[a, b, c] : Array Value).size := by kernel_rfl
theorem one_scE (S : ByteArray) (x y : Int) : (#[.string S, .int .i64 x, .int .i64 y] : Array Value).all (·.oneCell') = true := by simp [Value.oneCell']
theorem rnumE (S : ByteArray) (q : Nat) (er n v : Int) (q' : Nat) (e' : Int) (w : World) (hS : S.size ≤ 1000000) (hq : q ≤ S.size) (h0 : 0 ≤ n) (h1 : n ≤ 4294967296) (h : Rd.num S q er n = (v, q', e')) :
    Calls Tryd.prog 58 #[.agg #[.string S, .int .i64 (q : Int), .int .i64 er], .int .i64 n] w fun e w' => e = .returned (.tuple #[.agg #[.string S, .int .i64 (q' : Int), .int .i64 e'], .int .i64 v]) ∧ Below w.heap.size w w' := by
  have h1 := rNum_any S q er n w hS hq (by omega) (by omega)
  rw [h] at h1
  exact h1
theorem rtextE (S : ByteArray) (q : Nat) (er n : Int) (v : ByteArray) (q' : Nat) (e' : Int) (w : World) (hS : S.size ≤ 1000000) (hq : q ≤ S.size) (h0 : 0 ≤ n) (h1 : n ≤ 4294967296) (h : Rd.text S q er n = (v, q', e')) :
    Calls Tryd.prog 59 #[.agg #[.string S, .int .i64 (q : Int), .int .i64 er], .int .i64 n] w fun e w' => e = .returned (.tuple #[.agg #[.string S, .int .i64 (q' : Int), .int .i64 e'], .string v]) ∧ Below w.heap.size w w' := by
  have h1 := rText_any S q er n w hS hq (by omega) (by omega)
  rw [h] at h1
  exact h1
theorem lstE2_yes {a b : ByteArray} (h : a = b) : (a.toList == b.toList) = true := by rw [h]; simp
theorem lstE2_no {a b : ByteArray} (h : a ≠ b) : (a.toList == b.toList) = false := by
  rw [beq_eq_false_iff_ne, Lib.toList_data, Lib.toList_data]
  exact fun e => h (ba_ext e)
set_option maxHeartbeats 16000000 in
set_option maxRecDepth 100000 in
theorem ertake_yes (a b k : Int) (x o n : ByteArray) (t u : Int) (w : World) (h : rok a b k x o n t u = true) :
    Calls Tryd.prog 22 #[.string (recS a b k x o n t u)] w fun e w' => e = .returned (.tuple #[.agg (recV a b k x o n t u), .bool true]) ∧ Below w.heap.size w w' := by
  obtain ⟨f1, f2⟩ := rec_front h
  have hz := rec_size h
  have bd := rok_bd h
  have bz := bodyR_size h
  have HBR := Lib.hid (fun W : World => rbare_any (recS a b k x o n t u) W (by omega))
  unfold rbareV at HBR
  rw [f1, if_pos rfl, f2] at HBR
  have hsz := sealH_size (bodyR a b k x o n t u)
  have HOP := Lib.hid (fun (W : World) => refOpen_any (sealH (bodyR a b k x o n t u)) W (by omega))
  rw [opened_yesY _ (seal_is (bodyR a b k x o n t u)).1, (seal_is (bodyR a b k x o n t u)).2] at HOP
  obtain ⟨Y, hY⟩ : ∃ Y, (bodyR a b k x o n t u).extract 1 (bodyR a b k x o n t u).size = Y := ⟨_, rfl⟩
  have hYl : Y.data.toList = (bodyR a b k x o n t u).data.toList.drop 1 := by rw [← hY, ba_from]
  have hYs : Y.size ≤ 100 := by rw [← hY, ByteArray.size_extract]; omega
  obtain ⟨q1, q2, q3, q4, q5, q6, q7, q8, h1, h2, h3, h4, h5, h6, h7, h8, h9⟩ := rec_reads h Y 0 (fun a' b' k' t' u' p1 p2 p3 p4 p5 => by rw [List.drop_zero, hYl]; exact bodyR_tail a' b' k' t' u' p1 p2 p3 p4 p5) 4294967296 4294967296 4294967296 128 128 128 4294967296 4294967296 (by omega) (by omega) (by omega) (by omega) (by omega) (by omega) (by omega) (by omega) (by omega) (by omega) (by omega) (by omega) (by omega) (by omega) (by omega) (by omega)
  have l1 : q1 ≤ Y.size := by have := Rd.num_le Y 0 0 4294967296 (Nat.zero_le _); rw [h1] at this; exact this
  have l2 : q2 ≤ Y.size := by have := Rd.num_le Y q1 0 4294967296 l1; rw [h2] at this; exact this
  have l3 : q3 ≤ Y.size := by have := Rd.num_le Y q2 0 4294967296 l2; rw [h3] at this; exact this
  have l4 : q4 ≤ Y.size := by have := Rd.text_le Y q3 0 128 l3; rw [h4] at this; exact this
  have l5 : q5 ≤ Y.size := by have := Rd.text_le Y q4 0 128 l4; rw [h5] at this; exact this
  have l6 : q6 ≤ Y.size := by have := Rd.text_le Y q5 0 128 l5; rw [h6] at this; exact this
  have l7 : q7 ≤ Y.size := by have := Rd.num_le Y q6 0 4294967296 l6; rw [h7] at this; exact this
  have l8 : q8 ≤ Y.size := by have := Rd.num_le Y q7 0 4294967296 l7; rw [h8] at this; exact this
  have H1 := Lib.hid (fun W : World => rnumE Y 0 0 4294967296 _ _ _ W (by omega) (Nat.zero_le _) (by omega) (by omega) h1)
  have H2 := Lib.hid (fun W : World => rnumE Y q1 0 4294967296 _ _ _ W (by omega) l1 (by omega) (by omega) h2)
  have H3 := Lib.hid (fun W : World => rnumE Y q2 0 4294967296 _ _ _ W (by omega) l2 (by omega) (by omega) h3)
  have H4 := Lib.hid (fun W : World => rtextE Y q3 0 128 _ _ _ W (by omega) l3 (by omega) (by omega) h4)
  have H5 := Lib.hid (fun W : World => rtextE Y q4 0 128 _ _ _ W (by omega) l4 (by omega) (by omega) h5)
  have H6 := Lib.hid (fun W : World => rtextE Y q5 0 128 _ _ _ W (by omega) l5 (by omega) (by omega) h6)
  have H7 := Lib.hid (fun W : World => rnumE Y q6 0 4294967296 _ _ _ W (by omega) l6 (by omega) (by omega) h7)
  have H8 := Lib.hid (fun W : World => rnumE Y q7 0 4294967296 _ _ _ W (by omega) l7 (by omega) (by omega) h8)
  have HIS := Lib.hid (fun W : World => ris_any a b k x o n t u W (by unfold maxLen; omega))
  have HPU := Lib.hid (fun W : World => erputR_any a b k x o n t u W (by unfold maxLen; omega))
  unfold recD at HPU
  rw [if_pos h] at HPU
  rw [h] at HIS
  unfold recV
  have hXl : decide (((bodyR a b k x o n t u).size : Int) < 1) = false := decide_eq_false (by omega)
  have hXl2 : (1 : Int) ≤ ((bodyR a b k x o n t u).size : Int) := by omega
  generalize sealH (bodyR a b k x o n t u) = U at HBR HOP
  generalize recS a b k x o n t u = S at HBR HPU
  have hss : (S.toList == S.toList) = true := by simp
  have hss2 : (S.toList != S.toList) = false := by simp
  generalize bodyR a b k x o n t u = X at HOP hY hXl hXl2
  clear f1 f2 hz bd bz hsz hYl hYs h1 h2 h3 h4 h5 h6 h7 h8 h9 l1 l2 l3 l4 l5 l6 l7 l8 h
  have HB1 := Lib.hid (Below.refl w.heap.size w)
  go_enter Tryd.func22, Tryd.ntmps22
  go_wp2_with fail
  have HF2 := Lib.hid (blk_new w (.cells #[.int .i64 0, .int .i64 0, .int .i64 0, .string ⟨#[]⟩, .string ⟨#[]⟩, .string ⟨#[]⟩, .int .i64 0, .int .i64 0] 37 (0, 0)))
  have HB3 := Lib.hid (HB1.out.alloc HB1.out.size (.cells #[.int .i64 0, .int .i64 0, .int .i64 0, .string ⟨#[]⟩, .string ⟨#[]⟩, .string ⟨#[]⟩, .int .i64 0, .int .i64 0] 37 (0, 0)))
  clear HB1
  refine (HBR.out (w.alloc (.cells #[.int .i64 0, .int .i64 0, .int .i64 0, .string ⟨#[]⟩, .string ⟨#[]⟩, .string ⟨#[]⟩, .int .i64 0, .int .i64 0] 37 (0, 0)))).mono ?_
  rintro e w1 ⟨rfl, hb1⟩
  have HF4 := Lib.hid (blk_below HF2.out hb1)
  have HB5 := Lib.hid (HB3.out.trans (hb1.mono HB3.out.size))
  clear hb1 HB3 HF2
  go_wp2_with fail
  refine (HOP.out w1).mono ?_
  rintro e w2 ⟨rfl, hb2⟩
  have HF6 := Lib.hid (blk_below HF4.out hb2)
  have HB7 := Lib.hid (HB5.out.trans (hb2.mono HB5.out.size))
  clear hb2 HB5 HF4
  have hk8 : w.heap.size < w2.heap.size := lt_of_block HF6.out
  have HF9 := Lib.hid (blk_alloc HF6.out (.cells #[.int .i64 0, .int .i64 0, .int .i64 0, .string ⟨#[]⟩, .string ⟨#[]⟩, .string ⟨#[]⟩, .int .i64 0, .int .i64 0] 37 (0, 0)))
  have HF10 := Lib.hid (blk_new w2 (.cells #[.int .i64 0, .int .i64 0, .int .i64 0, .string ⟨#[]⟩, .string ⟨#[]⟩, .string ⟨#[]⟩, .int .i64 0, .int .i64 0] 37 (0, 0)))
  have HB11 := Lib.hid (HB7.out.alloc HB7.out.size (.cells #[.int .i64 0, .int .i64 0, .int .i64 0, .string ⟨#[]⟩, .string ⟨#[]⟩, .string ⟨#[]⟩, .int .i64 0, .int .i64 0] 37 (0, 0)))
  clear HB7
  have HF12 := Lib.hid (blk_alloc HF9.out (.cells #[.string Y, .int .i64 0, .int .i64 0] 70 (0, 0)))
  clear HF9
  have HF13 := Lib.hid (blk_alloc HF10.out (.cells #[.string Y, .int .i64 0, .int .i64 0] 70 (0, 0)))
  clear HF10
  have HF14 : Hid (((w2.alloc (.cells #[.int .i64 0, .int .i64 0, .int .i64 0, .string ⟨#[]⟩, .string ⟨#[]⟩, .string ⟨#[]⟩, .int .i64 0, .int .i64 0] 37 (0, 0))).alloc (.cells #[.string Y, .int .i64 0, .int .i64 0] 70 (0, 0))).heap[w2.heap.size + 1]? = some (.cells #[.string Y, .int .i64 0, .int .i64 0] 70 (0, 0))) := Lib.hid (blk_newN (W := (w2.alloc (.cells #[.int .i64 0, .int .i64 0, .int .i64 0, .string ⟨#[]⟩, .string ⟨#[]⟩, .string ⟨#[]⟩, .int .i64 0, .int .i64 0] 37 (0, 0)))) (o := (.cells #[.string Y, .int .i64 0, .int .i64 0] 70 (0, 0))) (by simp))
  have HB15 := Lib.hid (HB11.out.alloc (by have := HB11.out.size; simp at this ⊢ <;> omega) (.cells #[.string Y, .int .i64 0, .int .i64 0] 70 (0, 0)))
  clear HB11
  go_wp2_with fail
  refine (H1.out ((w2.alloc (.cells #[.int .i64 0, .int .i64 0, .int .i64 0, .string ⟨#[]⟩, .string ⟨#[]⟩, .string ⟨#[]⟩, .int .i64 0, .int .i64 0] 37 (0, 0))).alloc (.cells #[.string Y, .int .i64 0, .int .i64 0] 70 (0, 0)))).mono ?_
  rintro e w3 ⟨rfl, hb3⟩
  have HF16 := Lib.hid (blk_below HF12.out hb3)
  have HF17 := Lib.hid (blk_below HF13.out hb3)
  have HF18 := Lib.hid (blk_below HF14.out hb3)
  have HB19 := Lib.hid (HB15.out.trans (hb3.mono HB15.out.size))
  clear hb3 HB15 HF12 HF6 HF13 HF14
  go_wp2_with (first
    | refine wpList_store_rowY rfl 70 (.tmp 8) (.tmp 36) rfl (w2.heap.size + 1) #[.string Y, .int .i64 (q1 : Int), .int .i64 0] rfl rfl 70 _ HF18.out (info_scE _ _ _) rfl (one_scE _ _ _) w.heap.size w HB19.out (by omega) ?_)
  intro W4 hbk hoth hbel _
  have HF20 := Lib.hid (blk_oth HF16.out hoth.out (by omega))
  have HF21 := Lib.hid (blk_oth HF17.out hoth.out (by omega))
  have HF22 := Lib.hid hbk.out
  have HB23 := Lib.hid hbel.out
  clear hbk hoth hbel HB19  HF16 HF17 HF18
  have hc24 : W4.cell? ⟨w2.heap.size, 0, none⟩ = some (.int .i64 0) := by rw [cell_of_row _ _ _ _ _ _ HF21.out]; rfl
  have hc25 : W4.cell? ⟨w2.heap.size, 1, none⟩ = some (.int .i64 0) := by rw [cell_of_row _ _ _ _ _ _ HF21.out]; rfl
  have hc26 : W4.cell? ⟨w2.heap.size, 2, none⟩ = some (.int .i64 0) := by rw [cell_of_row _ _ _ _ _ _ HF21.out]; rfl
  have hc27 : W4.cell? ⟨w2.heap.size, 3, none⟩ = some (.string ⟨#[]⟩) := by rw [cell_of_row _ _ _ _ _ _ HF21.out]; rfl
  have hc28 : W4.cell? ⟨w2.heap.size, 4, none⟩ = some (.string ⟨#[]⟩) := by rw [cell_of_row _ _ _ _ _ _ HF21.out]; rfl
  have hc29 : W4.cell? ⟨w2.heap.size, 5, none⟩ = some (.string ⟨#[]⟩) := by rw [cell_of_row _ _ _ _ _ _ HF21.out]; rfl
  have hc30 : W4.cell? ⟨w2.heap.size, 6, none⟩ = some (.int .i64 0) := by rw [cell_of_row _ _ _ _ _ _ HF21.out]; rfl
  have hc31 : W4.cell? ⟨w2.heap.size, 7, none⟩ = some (.int .i64 0) := by rw [cell_of_row _ _ _ _ _ _ HF21.out]; rfl
  have hc32 : W4.cell? ⟨w2.heap.size + 1, 0, none⟩ = some (.string Y) := by rw [cell_of_row _ _ _ _ _ _ HF22.out]; rfl
  have hc33 : W4.cell? ⟨w2.heap.size + 1, 1, none⟩ = some (.int .i64 (q1 : Int)) := by rw [cell_of_row _ _ _ _ _ _ HF22.out]; rfl
  have hc34 : W4.cell? ⟨w2.heap.size + 1, 2, none⟩ = some (.int .i64 0) := by rw [cell_of_row _ _ _ _ _ _ HF22.out]; rfl
  have hz35 : W4.frozen? ⟨w2.heap.size, 0, none⟩ = false := frozen_of_row _ _ _ _ _ HF21.out
  have HF36 := Lib.hid (show (W4.setCell ⟨w2.heap.size, 0, none⟩ (.int .i64 a)).heap[w.heap.size]? = some (.cells #[.int .i64 0, .int .i64 0, .int .i64 0, .string ⟨#[]⟩, .string ⟨#[]⟩, .string ⟨#[]⟩, .int .i64 0, .int .i64 0] 37 (0, 0)) by rw [Below.heap_setCell _ _ _ _ (by show w.heap.size ≠ w2.heap.size; omega)]; exact HF20.out)
  have HF37 := Lib.hid (show (W4.setCell ⟨w2.heap.size, 0, none⟩ (.int .i64 a)).heap[w2.heap.size]? = some (.cells #[.int .i64 a, .int .i64 0, .int .i64 0, .string ⟨#[]⟩, .string ⟨#[]⟩, .string ⟨#[]⟩, .int .i64 0, .int .i64 0] 37 (0, 0)) by have h := heap_setCell_at (i := 0) (u := .int .i64 a) HF21.out; exact h)
  have HF38 := Lib.hid (show (W4.setCell ⟨w2.heap.size, 0, none⟩ (.int .i64 a)).heap[w2.heap.size + 1]? = some (.cells #[.string Y, .int .i64 (q1 : Int), .int .i64 0] 70 (0, 0)) by rw [Below.heap_setCell _ _ _ _ (by show w2.heap.size + 1 ≠ w2.heap.size; omega)]; exact HF22.out)
  have HB39 := Lib.hid (HB23.out.setCell (p := ⟨w2.heap.size, 0, none⟩) (by show w.heap.size ≤ w2.heap.size; omega) (.int .i64 a))
  have hc40 : (W4.setCell ⟨w2.heap.size, 0, none⟩ (.int .i64 a)).cell? ⟨w2.heap.size + 1, 0, none⟩ = some (.string Y) := by rw [cell_of_row _ _ _ _ _ _ HF38.out]; rfl
  have hc41 : (W4.setCell ⟨w2.heap.size, 0, none⟩ (.int .i64 a)).cell? ⟨w2.heap.size + 1, 1, none⟩ = some (.int .i64 (q1 : Int)) := by rw [cell_of_row _ _ _ _ _ _ HF38.out]; rfl
  have hc42 : (W4.setCell ⟨w2.heap.size, 0, none⟩ (.int .i64 a)).cell? ⟨w2.heap.size + 1, 2, none⟩ = some (.int .i64 0) := by rw [cell_of_row _ _ _ _ _ _ HF38.out]; rfl
  have hc43 : (W4.setCell ⟨w2.heap.size, 0, none⟩ (.int .i64 a)).cell? ⟨w2.heap.size, 0, none⟩ = some (.int .i64 a) := by rw [cell_of_row _ _ _ _ _ _ HF37.out]; rfl
  have hc44 : (W4.setCell ⟨w2.heap.size, 0, none⟩ (.int .i64 a)).cell? ⟨w2.heap.size, 1, none⟩ = some (.int .i64 0) := by rw [cell_of_row _ _ _ _ _ _ HF37.out]; rfl
  have hc45 : (W4.setCell ⟨w2.heap.size, 0, none⟩ (.int .i64 a)).cell? ⟨w2.heap.size, 2, none⟩ = some (.int .i64 0) := by rw [cell_of_row _ _ _ _ _ _ HF37.out]; rfl
  have hc46 : (W4.setCell ⟨w2.heap.size, 0, none⟩ (.int .i64 a)).cell? ⟨w2.heap.size, 3, none⟩ = some (.string ⟨#[]⟩) := by rw [cell_of_row _ _ _ _ _ _ HF37.out]; rfl
  have hc47 : (W4.setCell ⟨w2.heap.size, 0, none⟩ (.int .i64 a)).cell? ⟨w2.heap.size, 4, none⟩ = some (.string ⟨#[]⟩) := by rw [cell_of_row _ _ _ _ _ _ HF37.out]; rfl
  have hc48 : (W4.setCell ⟨w2.heap.size, 0, none⟩ (.int .i64 a)).cell? ⟨w2.heap.size, 5, none⟩ = some (.string ⟨#[]⟩) := by rw [cell_of_row _ _ _ _ _ _ HF37.out]; rfl
  have hc49 : (W4.setCell ⟨w2.heap.size, 0, none⟩ (.int .i64 a)).cell? ⟨w2.heap.size, 6, none⟩ = some (.int .i64 0) := by rw [cell_of_row _ _ _ _ _ _ HF37.out]; rfl
  have hc50 : (W4.setCell ⟨w2.heap.size, 0, none⟩ (.int .i64 a)).cell? ⟨w2.heap.size, 7, none⟩ = some (.int .i64 0) := by rw [cell_of_row _ _ _ _ _ _ HF37.out]; rfl
  go_wp2_with fail
  refine (H2.out (W4.setCell ⟨w2.heap.size, 0, none⟩ (.int .i64 a))).mono ?_
  rintro e w5 ⟨rfl, hb5⟩
  clear hc24 hc25 hc26 hc27 hc28 hc29 hc30 hc31 hc32 hc33 hc34 hz35 hc40 hc41 hc42 hc43 hc44 hc45 hc46 hc47 hc48 hc49 hc50
  have HF51 := Lib.hid (blk_below HF36.out hb5)
  have HF52 := Lib.hid (blk_below HF37.out hb5)
  have HF53 := Lib.hid (blk_below HF38.out hb5)
  have HB54 := Lib.hid (HB39.out.trans (hb5.mono HB39.out.size))
  clear hb5 HB39 HF36 HF37 HF38
  go_wp2_with (first
    | refine wpList_store_rowY rfl 70 (.tmp 8) (.tmp 42) rfl (w2.heap.size + 1) #[.string Y, .int .i64 (q2 : Int), .int .i64 0] rfl rfl 70 _ HF53.out (info_scE _ _ _) rfl (one_scE _ _ _) w.heap.size w HB54.out (by omega) ?_)
  intro W6 hbk hoth hbel _
  have HF55 := Lib.hid (blk_oth HF51.out hoth.out (by omega))
  have HF56 := Lib.hid (blk_oth HF52.out hoth.out (by omega))
  have HF57 := Lib.hid hbk.out
  have HB58 := Lib.hid hbel.out
  clear hbk hoth hbel HB54  HF51 HF52 HF53
  have hc59 : W6.cell? ⟨w2.heap.size, 0, none⟩ = some (.int .i64 a) := by rw [cell_of_row _ _ _ _ _ _ HF56.out]; rfl
  have hc60 : W6.cell? ⟨w2.heap.size, 1, none⟩ = some (.int .i64 0) := by rw [cell_of_row _ _ _ _ _ _ HF56.out]; rfl
  have hc61 : W6.cell? ⟨w2.heap.size, 2, none⟩ = some (.int .i64 0) := by rw [cell_of_row _ _ _ _ _ _ HF56.out]; rfl
  have hc62 : W6.cell? ⟨w2.heap.size, 3, none⟩ = some (.string ⟨#[]⟩) := by rw [cell_of_row _ _ _ _ _ _ HF56.out]; rfl
  have hc63 : W6.cell? ⟨w2.heap.size, 4, none⟩ = some (.string ⟨#[]⟩) := by rw [cell_of_row _ _ _ _ _ _ HF56.out]; rfl
  have hc64 : W6.cell? ⟨w2.heap.size, 5, none⟩ = some (.string ⟨#[]⟩) := by rw [cell_of_row _ _ _ _ _ _ HF56.out]; rfl
  have hc65 : W6.cell? ⟨w2.heap.size, 6, none⟩ = some (.int .i64 0) := by rw [cell_of_row _ _ _ _ _ _ HF56.out]; rfl
  have hc66 : W6.cell? ⟨w2.heap.size, 7, none⟩ = some (.int .i64 0) := by rw [cell_of_row _ _ _ _ _ _ HF56.out]; rfl
  have hc67 : W6.cell? ⟨w2.heap.size + 1, 0, none⟩ = some (.string Y) := by rw [cell_of_row _ _ _ _ _ _ HF57.out]; rfl
  have hc68 : W6.cell? ⟨w2.heap.size + 1, 1, none⟩ = some (.int .i64 (q2 : Int)) := by rw [cell_of_row _ _ _ _ _ _ HF57.out]; rfl
  have hc69 : W6.cell? ⟨w2.heap.size + 1, 2, none⟩ = some (.int .i64 0) := by rw [cell_of_row _ _ _ _ _ _ HF57.out]; rfl
  have hz70 : W6.frozen? ⟨w2.heap.size, 1, none⟩ = false := frozen_of_row _ _ _ _ _ HF56.out
  have HF71 := Lib.hid (show (W6.setCell ⟨w2.heap.size, 1, none⟩ (.int .i64 b)).heap[w.heap.size]? = some (.cells #[.int .i64 0, .int .i64 0, .int .i64 0, .string ⟨#[]⟩, .string ⟨#[]⟩, .string ⟨#[]⟩, .int .i64 0, .int .i64 0] 37 (0, 0)) by rw [Below.heap_setCell _ _ _ _ (by show w.heap.size ≠ w2.heap.size; omega)]; exact HF55.out)
  have HF72 := Lib.hid (show (W6.setCell ⟨w2.heap.size, 1, none⟩ (.int .i64 b)).heap[w2.heap.size]? = some (.cells #[.int .i64 a, .int .i64 b, .int .i64 0, .string ⟨#[]⟩, .string ⟨#[]⟩, .string ⟨#[]⟩, .int .i64 0, .int .i64 0] 37 (0, 0)) by have h := heap_setCell_at (i := 1) (u := .int .i64 b) HF56.out; exact h)
  have HF73 := Lib.hid (show (W6.setCell ⟨w2.heap.size, 1, none⟩ (.int .i64 b)).heap[w2.heap.size + 1]? = some (.cells #[.string Y, .int .i64 (q2 : Int), .int .i64 0] 70 (0, 0)) by rw [Below.heap_setCell _ _ _ _ (by show w2.heap.size + 1 ≠ w2.heap.size; omega)]; exact HF57.out)
  have HB74 := Lib.hid (HB58.out.setCell (p := ⟨w2.heap.size, 1, none⟩) (by show w.heap.size ≤ w2.heap.size; omega) (.int .i64 b))
  have hc75 : (W6.setCell ⟨w2.heap.size, 1, none⟩ (.int .i64 b)).cell? ⟨w2.heap.size + 1, 0, none⟩ = some (.string Y) := by rw [cell_of_row _ _ _ _ _ _ HF73.out]; rfl
  have hc76 : (W6.setCell ⟨w2.heap.size, 1, none⟩ (.int .i64 b)).cell? ⟨w2.heap.size + 1, 1, none⟩ = some (.int .i64 (q2 : Int)) := by rw [cell_of_row _ _ _ _ _ _ HF73.out]; rfl
  have hc77 : (W6.setCell ⟨w2.heap.size, 1, none⟩ (.int .i64 b)).cell? ⟨w2.heap.size + 1, 2, none⟩ = some (.int .i64 0) := by rw [cell_of_row _ _ _ _ _ _ HF73.out]; rfl
  have hc78 : (W6.setCell ⟨w2.heap.size, 1, none⟩ (.int .i64 b)).cell? ⟨w2.heap.size, 0, none⟩ = some (.int .i64 a) := by rw [cell_of_row _ _ _ _ _ _ HF72.out]; rfl
  have hc79 : (W6.setCell ⟨w2.heap.size, 1, none⟩ (.int .i64 b)).cell? ⟨w2.heap.size, 1, none⟩ = some (.int .i64 b) := by rw [cell_of_row _ _ _ _ _ _ HF72.out]; rfl
  have hc80 : (W6.setCell ⟨w2.heap.size, 1, none⟩ (.int .i64 b)).cell? ⟨w2.heap.size, 2, none⟩ = some (.int .i64 0) := by rw [cell_of_row _ _ _ _ _ _ HF72.out]; rfl
  have hc81 : (W6.setCell ⟨w2.heap.size, 1, none⟩ (.int .i64 b)).cell? ⟨w2.heap.size, 3, none⟩ = some (.string ⟨#[]⟩) := by rw [cell_of_row _ _ _ _ _ _ HF72.out]; rfl
  have hc82 : (W6.setCell ⟨w2.heap.size, 1, none⟩ (.int .i64 b)).cell? ⟨w2.heap.size, 4, none⟩ = some (.string ⟨#[]⟩) := by rw [cell_of_row _ _ _ _ _ _ HF72.out]; rfl
  have hc83 : (W6.setCell ⟨w2.heap.size, 1, none⟩ (.int .i64 b)).cell? ⟨w2.heap.size, 5, none⟩ = some (.string ⟨#[]⟩) := by rw [cell_of_row _ _ _ _ _ _ HF72.out]; rfl
  have hc84 : (W6.setCell ⟨w2.heap.size, 1, none⟩ (.int .i64 b)).cell? ⟨w2.heap.size, 6, none⟩ = some (.int .i64 0) := by rw [cell_of_row _ _ _ _ _ _ HF72.out]; rfl
  have hc85 : (W6.setCell ⟨w2.heap.size, 1, none⟩ (.int .i64 b)).cell? ⟨w2.heap.size, 7, none⟩ = some (.int .i64 0) := by rw [cell_of_row _ _ _ _ _ _ HF72.out]; rfl
  go_wp2_with fail
  refine (H3.out (W6.setCell ⟨w2.heap.size, 1, none⟩ (.int .i64 b))).mono ?_
  rintro e w7 ⟨rfl, hb7⟩
  clear hc59 hc60 hc61 hc62 hc63 hc64 hc65 hc66 hc67 hc68 hc69 hz70 hc75 hc76 hc77 hc78 hc79 hc80 hc81 hc82 hc83 hc84 hc85
  have HF86 := Lib.hid (blk_below HF71.out hb7)
  have HF87 := Lib.hid (blk_below HF72.out hb7)
  have HF88 := Lib.hid (blk_below HF73.out hb7)
  have HB89 := Lib.hid (HB74.out.trans (hb7.mono HB74.out.size))
  clear hb7 HB74 HF71 HF72 HF73
  go_wp2_with (first
    | refine wpList_store_rowY rfl 70 (.tmp 8) (.tmp 48) rfl (w2.heap.size + 1) #[.string Y, .int .i64 (q3 : Int), .int .i64 0] rfl rfl 70 _ HF88.out (info_scE _ _ _) rfl (one_scE _ _ _) w.heap.size w HB89.out (by omega) ?_)
  intro W8 hbk hoth hbel _
  have HF90 := Lib.hid (blk_oth HF86.out hoth.out (by omega))
  have HF91 := Lib.hid (blk_oth HF87.out hoth.out (by omega))
  have HF92 := Lib.hid hbk.out
  have HB93 := Lib.hid hbel.out
  clear hbk hoth hbel HB89  HF86 HF87 HF88
  have hc94 : W8.cell? ⟨w2.heap.size, 0, none⟩ = some (.int .i64 a) := by rw [cell_of_row _ _ _ _ _ _ HF91.out]; rfl
  have hc95 : W8.cell? ⟨w2.heap.size, 1, none⟩ = some (.int .i64 b) := by rw [cell_of_row _ _ _ _ _ _ HF91.out]; rfl
  have hc96 : W8.cell? ⟨w2.heap.size, 2, none⟩ = some (.int .i64 0) := by rw [cell_of_row _ _ _ _ _ _ HF91.out]; rfl
  have hc97 : W8.cell? ⟨w2.heap.size, 3, none⟩ = some (.string ⟨#[]⟩) := by rw [cell_of_row _ _ _ _ _ _ HF91.out]; rfl
  have hc98 : W8.cell? ⟨w2.heap.size, 4, none⟩ = some (.string ⟨#[]⟩) := by rw [cell_of_row _ _ _ _ _ _ HF91.out]; rfl
  have hc99 : W8.cell? ⟨w2.heap.size, 5, none⟩ = some (.string ⟨#[]⟩) := by rw [cell_of_row _ _ _ _ _ _ HF91.out]; rfl
  have hc100 : W8.cell? ⟨w2.heap.size, 6, none⟩ = some (.int .i64 0) := by rw [cell_of_row _ _ _ _ _ _ HF91.out]; rfl
  have hc101 : W8.cell? ⟨w2.heap.size, 7, none⟩ = some (.int .i64 0) := by rw [cell_of_row _ _ _ _ _ _ HF91.out]; rfl
  have hc102 : W8.cell? ⟨w2.heap.size + 1, 0, none⟩ = some (.string Y) := by rw [cell_of_row _ _ _ _ _ _ HF92.out]; rfl
  have hc103 : W8.cell? ⟨w2.heap.size + 1, 1, none⟩ = some (.int .i64 (q3 : Int)) := by rw [cell_of_row _ _ _ _ _ _ HF92.out]; rfl
  have hc104 : W8.cell? ⟨w2.heap.size + 1, 2, none⟩ = some (.int .i64 0) := by rw [cell_of_row _ _ _ _ _ _ HF92.out]; rfl
  have hz105 : W8.frozen? ⟨w2.heap.size, 2, none⟩ = false := frozen_of_row _ _ _ _ _ HF91.out
  have HF106 := Lib.hid (show (W8.setCell ⟨w2.heap.size, 2, none⟩ (.int .i64 k)).heap[w.heap.size]? = some (.cells #[.int .i64 0, .int .i64 0, .int .i64 0, .string ⟨#[]⟩, .string ⟨#[]⟩, .string ⟨#[]⟩, .int .i64 0, .int .i64 0] 37 (0, 0)) by rw [Below.heap_setCell _ _ _ _ (by show w.heap.size ≠ w2.heap.size; omega)]; exact HF90.out)
  have HF107 := Lib.hid (show (W8.setCell ⟨w2.heap.size, 2, none⟩ (.int .i64 k)).heap[w2.heap.size]? = some (.cells #[.int .i64 a, .int .i64 b, .int .i64 k, .string ⟨#[]⟩, .string ⟨#[]⟩, .string ⟨#[]⟩, .int .i64 0, .int .i64 0] 37 (0, 0)) by have h := heap_setCell_at (i := 2) (u := .int .i64 k) HF91.out; exact h)
  have HF108 := Lib.hid (show (W8.setCell ⟨w2.heap.size, 2, none⟩ (.int .i64 k)).heap[w2.heap.size + 1]? = some (.cells #[.string Y, .int .i64 (q3 : Int), .int .i64 0] 70 (0, 0)) by rw [Below.heap_setCell _ _ _ _ (by show w2.heap.size + 1 ≠ w2.heap.size; omega)]; exact HF92.out)
  have HB109 := Lib.hid (HB93.out.setCell (p := ⟨w2.heap.size, 2, none⟩) (by show w.heap.size ≤ w2.heap.size; omega) (.int .i64 k))
  have hc110 : (W8.setCell ⟨w2.heap.size, 2, none⟩ (.int .i64 k)).cell? ⟨w2.heap.size + 1, 0, none⟩ = some (.string Y) := by rw [cell_of_row _ _ _ _ _ _ HF108.out]; rfl
  have hc111 : (W8.setCell ⟨w2.heap.size, 2, none⟩ (.int .i64 k)).cell? ⟨w2.heap.size + 1, 1, none⟩ = some (.int .i64 (q3 : Int)) := by rw [cell_of_row _ _ _ _ _ _ HF108.out]; rfl
  have hc112 : (W8.setCell ⟨w2.heap.size, 2, none⟩ (.int .i64 k)).cell? ⟨w2.heap.size + 1, 2, none⟩ = some (.int .i64 0) := by rw [cell_of_row _ _ _ _ _ _ HF108.out]; rfl
  have hc113 : (W8.setCell ⟨w2.heap.size, 2, none⟩ (.int .i64 k)).cell? ⟨w2.heap.size, 0, none⟩ = some (.int .i64 a) := by rw [cell_of_row _ _ _ _ _ _ HF107.out]; rfl
  have hc114 : (W8.setCell ⟨w2.heap.size, 2, none⟩ (.int .i64 k)).cell? ⟨w2.heap.size, 1, none⟩ = some (.int .i64 b) := by rw [cell_of_row _ _ _ _ _ _ HF107.out]; rfl
  have hc115 : (W8.setCell ⟨w2.heap.size, 2, none⟩ (.int .i64 k)).cell? ⟨w2.heap.size, 2, none⟩ = some (.int .i64 k) := by rw [cell_of_row _ _ _ _ _ _ HF107.out]; rfl
  have hc116 : (W8.setCell ⟨w2.heap.size, 2, none⟩ (.int .i64 k)).cell? ⟨w2.heap.size, 3, none⟩ = some (.string ⟨#[]⟩) := by rw [cell_of_row _ _ _ _ _ _ HF107.out]; rfl
  have hc117 : (W8.setCell ⟨w2.heap.size, 2, none⟩ (.int .i64 k)).cell? ⟨w2.heap.size, 4, none⟩ = some (.string ⟨#[]⟩) := by rw [cell_of_row _ _ _ _ _ _ HF107.out]; rfl
  have hc118 : (W8.setCell ⟨w2.heap.size, 2, none⟩ (.int .i64 k)).cell? ⟨w2.heap.size, 5, none⟩ = some (.string ⟨#[]⟩) := by rw [cell_of_row _ _ _ _ _ _ HF107.out]; rfl
  have hc119 : (W8.setCell ⟨w2.heap.size, 2, none⟩ (.int .i64 k)).cell? ⟨w2.heap.size, 6, none⟩ = some (.int .i64 0) := by rw [cell_of_row _ _ _ _ _ _ HF107.out]; rfl
  have hc120 : (W8.setCell ⟨w2.heap.size, 2, none⟩ (.int .i64 k)).cell? ⟨w2.heap.size, 7, none⟩ = some (.int .i64 0) := by rw [cell_of_row _ _ _ _ _ _ HF107.out]; rfl
  go_wp2_with fail
  refine (H4.out (W8.setCell ⟨w2.heap.size, 2, none⟩ (.int .i64 k))).mono ?_
  rintro e w9 ⟨rfl, hb9⟩
  clear hc94 hc95 hc96 hc97 hc98 hc99 hc100 hc101 hc102 hc103 hc104 hz105 hc110 hc111 hc112 hc113 hc114 hc115 hc116 hc117 hc118 hc119 hc120
  have HF121 := Lib.hid (blk_below HF106.out hb9)
  have HF122 := Lib.hid (blk_below HF107.out hb9)
  have HF123 := Lib.hid (blk_below HF108.out hb9)
  have HB124 := Lib.hid (HB109.out.trans (hb9.mono HB109.out.size))
  clear hb9 HB109 HF106 HF107 HF108
  go_wp2_with (first
    | refine wpList_store_rowY rfl 70 (.tmp 8) (.tmp 54) rfl (w2.heap.size + 1) #[.string Y, .int .i64 (q4 : Int), .int .i64 0] rfl rfl 70 _ HF123.out (info_scE _ _ _) rfl (one_scE _ _ _) w.heap.size w HB124.out (by omega) ?_)
  intro W10 hbk hoth hbel _
  have HF125 := Lib.hid (blk_oth HF121.out hoth.out (by omega))
  have HF126 := Lib.hid (blk_oth HF122.out hoth.out (by omega))
  have HF127 := Lib.hid hbk.out
  have HB128 := Lib.hid hbel.out
  clear hbk hoth hbel HB124  HF121 HF122 HF123
  have hc129 : W10.cell? ⟨w2.heap.size, 0, none⟩ = some (.int .i64 a) := by rw [cell_of_row _ _ _ _ _ _ HF126.out]; rfl
  have hc130 : W10.cell? ⟨w2.heap.size, 1, none⟩ = some (.int .i64 b) := by rw [cell_of_row _ _ _ _ _ _ HF126.out]; rfl
  have hc131 : W10.cell? ⟨w2.heap.size, 2, none⟩ = some (.int .i64 k) := by rw [cell_of_row _ _ _ _ _ _ HF126.out]; rfl
  have hc132 : W10.cell? ⟨w2.heap.size, 3, none⟩ = some (.string ⟨#[]⟩) := by rw [cell_of_row _ _ _ _ _ _ HF126.out]; rfl
  have hc133 : W10.cell? ⟨w2.heap.size, 4, none⟩ = some (.string ⟨#[]⟩) := by rw [cell_of_row _ _ _ _ _ _ HF126.out]; rfl
  have hc134 : W10.cell? ⟨w2.heap.size, 5, none⟩ = some (.string ⟨#[]⟩) := by rw [cell_of_row _ _ _ _ _ _ HF126.out]; rfl
  have hc135 : W10.cell? ⟨w2.heap.size, 6, none⟩ = some (.int .i64 0) := by rw [cell_of_row _ _ _ _ _ _ HF126.out]; rfl
  have hc136 : W10.cell? ⟨w2.heap.size, 7, none⟩ = some (.int .i64 0) := by rw [cell_of_row _ _ _ _ _ _ HF126.out]; rfl
  have hc137 : W10.cell? ⟨w2.heap.size + 1, 0, none⟩ = some (.string Y) := by rw [cell_of_row _ _ _ _ _ _ HF127.out]; rfl
  have hc138 : W10.cell? ⟨w2.heap.size + 1, 1, none⟩ = some (.int .i64 (q4 : Int)) := by rw [cell_of_row _ _ _ _ _ _ HF127.out]; rfl
  have hc139 : W10.cell? ⟨w2.heap.size + 1, 2, none⟩ = some (.int .i64 0) := by rw [cell_of_row _ _ _ _ _ _ HF127.out]; rfl
  have hz140 : W10.frozen? ⟨w2.heap.size, 3, none⟩ = false := frozen_of_row _ _ _ _ _ HF126.out
  have HF141 := Lib.hid (show (W10.setCell ⟨w2.heap.size, 3, none⟩ (.string x)).heap[w.heap.size]? = some (.cells #[.int .i64 0, .int .i64 0, .int .i64 0, .string ⟨#[]⟩, .string ⟨#[]⟩, .string ⟨#[]⟩, .int .i64 0, .int .i64 0] 37 (0, 0)) by rw [Below.heap_setCell _ _ _ _ (by show w.heap.size ≠ w2.heap.size; omega)]; exact HF125.out)
  have HF142 := Lib.hid (show (W10.setCell ⟨w2.heap.size, 3, none⟩ (.string x)).heap[w2.heap.size]? = some (.cells #[.int .i64 a, .int .i64 b, .int .i64 k, .string x, .string ⟨#[]⟩, .string ⟨#[]⟩, .int .i64 0, .int .i64 0] 37 (0, 0)) by have h := heap_setCell_at (i := 3) (u := .string x) HF126.out; exact h)
  have HF143 := Lib.hid (show (W10.setCell ⟨w2.heap.size, 3, none⟩ (.string x)).heap[w2.heap.size + 1]? = some (.cells #[.string Y, .int .i64 (q4 : Int), .int .i64 0] 70 (0, 0)) by rw [Below.heap_setCell _ _ _ _ (by show w2.heap.size + 1 ≠ w2.heap.size; omega)]; exact HF127.out)
  have HB144 := Lib.hid (HB128.out.setCell (p := ⟨w2.heap.size, 3, none⟩) (by show w.heap.size ≤ w2.heap.size; omega) (.string x))
  have hc145 : (W10.setCell ⟨w2.heap.size, 3, none⟩ (.string x)).cell? ⟨w2.heap.size + 1, 0, none⟩ = some (.string Y) := by rw [cell_of_row _ _ _ _ _ _ HF143.out]; rfl
  have hc146 : (W10.setCell ⟨w2.heap.size, 3, none⟩ (.string x)).cell? ⟨w2.heap.size + 1, 1, none⟩ = some (.int .i64 (q4 : Int)) := by rw [cell_of_row _ _ _ _ _ _ HF143.out]; rfl
  have hc147 : (W10.setCell ⟨w2.heap.size, 3, none⟩ (.string x)).cell? ⟨w2.heap.size + 1, 2, none⟩ = some (.int .i64 0) := by rw [cell_of_row _ _ _ _ _ _ HF143.out]; rfl
  have hc148 : (W10.setCell ⟨w2.heap.size, 3, none⟩ (.string x)).cell? ⟨w2.heap.size, 0, none⟩ = some (.int .i64 a) := by rw [cell_of_row _ _ _ _ _ _ HF142.out]; rfl
  have hc149 : (W10.setCell ⟨w2.heap.size, 3, none⟩ (.string x)).cell? ⟨w2.heap.size, 1, none⟩ = some (.int .i64 b) := by rw [cell_of_row _ _ _ _ _ _ HF142.out]; rfl
  have hc150 : (W10.setCell ⟨w2.heap.size, 3, none⟩ (.string x)).cell? ⟨w2.heap.size, 2, none⟩ = some (.int .i64 k) := by rw [cell_of_row _ _ _ _ _ _ HF142.out]; rfl
  have hc151 : (W10.setCell ⟨w2.heap.size, 3, none⟩ (.string x)).cell? ⟨w2.heap.size, 3, none⟩ = some (.string x) := by rw [cell_of_row _ _ _ _ _ _ HF142.out]; rfl
  have hc152 : (W10.setCell ⟨w2.heap.size, 3, none⟩ (.string x)).cell? ⟨w2.heap.size, 4, none⟩ = some (.string ⟨#[]⟩) := by rw [cell_of_row _ _ _ _ _ _ HF142.out]; rfl
  have hc153 : (W10.setCell ⟨w2.heap.size, 3, none⟩ (.string x)).cell? ⟨w2.heap.size, 5, none⟩ = some (.string ⟨#[]⟩) := by rw [cell_of_row _ _ _ _ _ _ HF142.out]; rfl
  have hc154 : (W10.setCell ⟨w2.heap.size, 3, none⟩ (.string x)).cell? ⟨w2.heap.size, 6, none⟩ = some (.int .i64 0) := by rw [cell_of_row _ _ _ _ _ _ HF142.out]; rfl
  have hc155 : (W10.setCell ⟨w2.heap.size, 3, none⟩ (.string x)).cell? ⟨w2.heap.size, 7, none⟩ = some (.int .i64 0) := by rw [cell_of_row _ _ _ _ _ _ HF142.out]; rfl
  go_wp2_with fail
  refine (H5.out (W10.setCell ⟨w2.heap.size, 3, none⟩ (.string x))).mono ?_
  rintro e w11 ⟨rfl, hb11⟩
  clear hc129 hc130 hc131 hc132 hc133 hc134 hc135 hc136 hc137 hc138 hc139 hz140 hc145 hc146 hc147 hc148 hc149 hc150 hc151 hc152 hc153 hc154 hc155
  have HF156 := Lib.hid (blk_below HF141.out hb11)
  have HF157 := Lib.hid (blk_below HF142.out hb11)
  have HF158 := Lib.hid (blk_below HF143.out hb11)
  have HB159 := Lib.hid (HB144.out.trans (hb11.mono HB144.out.size))
  clear hb11 HB144 HF141 HF142 HF143
  go_wp2_with (first
    | refine wpList_store_rowY rfl 70 (.tmp 8) (.tmp 60) rfl (w2.heap.size + 1) #[.string Y, .int .i64 (q5 : Int), .int .i64 0] rfl rfl 70 _ HF158.out (info_scE _ _ _) rfl (one_scE _ _ _) w.heap.size w HB159.out (by omega) ?_)
  intro W12 hbk hoth hbel _
  have HF160 := Lib.hid (blk_oth HF156.out hoth.out (by omega))
  have HF161 := Lib.hid (blk_oth HF157.out hoth.out (by omega))
  have HF162 := Lib.hid hbk.out
  have HB163 := Lib.hid hbel.out
  clear hbk hoth hbel HB159  HF156 HF157 HF158
  have hc164 : W12.cell? ⟨w2.heap.size, 0, none⟩ = some (.int .i64 a) := by rw [cell_of_row _ _ _ _ _ _ HF161.out]; rfl
  have hc165 : W12.cell? ⟨w2.heap.size, 1, none⟩ = some (.int .i64 b) := by rw [cell_of_row _ _ _ _ _ _ HF161.out]; rfl
  have hc166 : W12.cell? ⟨w2.heap.size, 2, none⟩ = some (.int .i64 k) := by rw [cell_of_row _ _ _ _ _ _ HF161.out]; rfl
  have hc167 : W12.cell? ⟨w2.heap.size, 3, none⟩ = some (.string x) := by rw [cell_of_row _ _ _ _ _ _ HF161.out]; rfl
  have hc168 : W12.cell? ⟨w2.heap.size, 4, none⟩ = some (.string ⟨#[]⟩) := by rw [cell_of_row _ _ _ _ _ _ HF161.out]; rfl
  have hc169 : W12.cell? ⟨w2.heap.size, 5, none⟩ = some (.string ⟨#[]⟩) := by rw [cell_of_row _ _ _ _ _ _ HF161.out]; rfl
  have hc170 : W12.cell? ⟨w2.heap.size, 6, none⟩ = some (.int .i64 0) := by rw [cell_of_row _ _ _ _ _ _ HF161.out]; rfl
  have hc171 : W12.cell? ⟨w2.heap.size, 7, none⟩ = some (.int .i64 0) := by rw [cell_of_row _ _ _ _ _ _ HF161.out]; rfl
  have hc172 : W12.cell? ⟨w2.heap.size + 1, 0, none⟩ = some (.string Y) := by rw [cell_of_row _ _ _ _ _ _ HF162.out]; rfl
  have hc173 : W12.cell? ⟨w2.heap.size + 1, 1, none⟩ = some (.int .i64 (q5 : Int)) := by rw [cell_of_row _ _ _ _ _ _ HF162.out]; rfl
  have hc174 : W12.cell? ⟨w2.heap.size + 1, 2, none⟩ = some (.int .i64 0) := by rw [cell_of_row _ _ _ _ _ _ HF162.out]; rfl
  have hz175 : W12.frozen? ⟨w2.heap.size, 4, none⟩ = false := frozen_of_row _ _ _ _ _ HF161.out
  have HF176 := Lib.hid (show (W12.setCell ⟨w2.heap.size, 4, none⟩ (.string o)).heap[w.heap.size]? = some (.cells #[.int .i64 0, .int .i64 0, .int .i64 0, .string ⟨#[]⟩, .string ⟨#[]⟩, .string ⟨#[]⟩, .int .i64 0, .int .i64 0] 37 (0, 0)) by rw [Below.heap_setCell _ _ _ _ (by show w.heap.size ≠ w2.heap.size; omega)]; exact HF160.out)
  have HF177 := Lib.hid (show (W12.setCell ⟨w2.heap.size, 4, none⟩ (.string o)).heap[w2.heap.size]? = some (.cells #[.int .i64 a, .int .i64 b, .int .i64 k, .string x, .string o, .string ⟨#[]⟩, .int .i64 0, .int .i64 0] 37 (0, 0)) by have h := heap_setCell_at (i := 4) (u := .string o) HF161.out; exact h)
  have HF178 := Lib.hid (show (W12.setCell ⟨w2.heap.size, 4, none⟩ (.string o)).heap[w2.heap.size + 1]? = some (.cells #[.string Y, .int .i64 (q5 : Int), .int .i64 0] 70 (0, 0)) by rw [Below.heap_setCell _ _ _ _ (by show w2.heap.size + 1 ≠ w2.heap.size; omega)]; exact HF162.out)
  have HB179 := Lib.hid (HB163.out.setCell (p := ⟨w2.heap.size, 4, none⟩) (by show w.heap.size ≤ w2.heap.size; omega) (.string o))
  have hc180 : (W12.setCell ⟨w2.heap.size, 4, none⟩ (.string o)).cell? ⟨w2.heap.size + 1, 0, none⟩ = some (.string Y) := by rw [cell_of_row _ _ _ _ _ _ HF178.out]; rfl
  have hc181 : (W12.setCell ⟨w2.heap.size, 4, none⟩ (.string o)).cell? ⟨w2.heap.size + 1, 1, none⟩ = some (.int .i64 (q5 : Int)) := by rw [cell_of_row _ _ _ _ _ _ HF178.out]; rfl
  have hc182 : (W12.setCell ⟨w2.heap.size, 4, none⟩ (.string o)).cell? ⟨w2.heap.size + 1, 2, none⟩ = some (.int .i64 0) := by rw [cell_of_row _ _ _ _ _ _ HF178.out]; rfl
  have hc183 : (W12.setCell ⟨w2.heap.size, 4, none⟩ (.string o)).cell? ⟨w2.heap.size, 0, none⟩ = some (.int .i64 a) := by rw [cell_of_row _ _ _ _ _ _ HF177.out]; rfl
  have hc184 : (W12.setCell ⟨w2.heap.size, 4, none⟩ (.string o)).cell? ⟨w2.heap.size, 1, none⟩ = some (.int .i64 b) := by rw [cell_of_row _ _ _ _ _ _ HF177.out]; rfl
  have hc185 : (W12.setCell ⟨w2.heap.size, 4, none⟩ (.string o)).cell? ⟨w2.heap.size, 2, none⟩ = some (.int .i64 k) := by rw [cell_of_row _ _ _ _ _ _ HF177.out]; rfl
  have hc186 : (W12.setCell ⟨w2.heap.size, 4, none⟩ (.string o)).cell? ⟨w2.heap.size, 3, none⟩ = some (.string x) := by rw [cell_of_row _ _ _ _ _ _ HF177.out]; rfl
  have hc187 : (W12.setCell ⟨w2.heap.size, 4, none⟩ (.string o)).cell? ⟨w2.heap.size, 4, none⟩ = some (.string o) := by rw [cell_of_row _ _ _ _ _ _ HF177.out]; rfl
  have hc188 : (W12.setCell ⟨w2.heap.size, 4, none⟩ (.string o)).cell? ⟨w2.heap.size, 5, none⟩ = some (.string ⟨#[]⟩) := by rw [cell_of_row _ _ _ _ _ _ HF177.out]; rfl
  have hc189 : (W12.setCell ⟨w2.heap.size, 4, none⟩ (.string o)).cell? ⟨w2.heap.size, 6, none⟩ = some (.int .i64 0) := by rw [cell_of_row _ _ _ _ _ _ HF177.out]; rfl
  have hc190 : (W12.setCell ⟨w2.heap.size, 4, none⟩ (.string o)).cell? ⟨w2.heap.size, 7, none⟩ = some (.int .i64 0) := by rw [cell_of_row _ _ _ _ _ _ HF177.out]; rfl
  go_wp2_with fail
  refine (H6.out (W12.setCell ⟨w2.heap.size, 4, none⟩ (.string o))).mono ?_
  rintro e w13 ⟨rfl, hb13⟩
  clear hc164 hc165 hc166 hc167 hc168 hc169 hc170 hc171 hc172 hc173 hc174 hz175 hc180 hc181 hc182 hc183 hc184 hc185 hc186 hc187 hc188 hc189 hc190
  have HF191 := Lib.hid (blk_below HF176.out hb13)
  have HF192 := Lib.hid (blk_below HF177.out hb13)
  have HF193 := Lib.hid (blk_below HF178.out hb13)
  have HB194 := Lib.hid (HB179.out.trans (hb13.mono HB179.out.size))
  clear hb13 HB179 HF176 HF177 HF178
  go_wp2_with (first
    | refine wpList_store_rowY rfl 70 (.tmp 8) (.tmp 66) rfl (w2.heap.size + 1) #[.string Y, .int .i64 (q6 : Int), .int .i64 0] rfl rfl 70 _ HF193.out (info_scE _ _ _) rfl (one_scE _ _ _) w.heap.size w HB194.out (by omega) ?_)
  intro W14 hbk hoth hbel _
  have HF195 := Lib.hid (blk_oth HF191.out hoth.out (by omega))
  have HF196 := Lib.hid (blk_oth HF192.out hoth.out (by omega))
  have HF197 := Lib.hid hbk.out
  have HB198 := Lib.hid hbel.out
  clear hbk hoth hbel HB194  HF191 HF192 HF193
  have hc199 : W14.cell? ⟨w2.heap.size, 0, none⟩ = some (.int .i64 a) := by rw [cell_of_row _ _ _ _ _ _ HF196.out]; rfl
  have hc200 : W14.cell? ⟨w2.heap.size, 1, none⟩ = some (.int .i64 b) := by rw [cell_of_row _ _ _ _ _ _ HF196.out]; rfl
  have hc201 : W14.cell? ⟨w2.heap.size, 2, none⟩ = some (.int .i64 k) := by rw [cell_of_row _ _ _ _ _ _ HF196.out]; rfl
  have hc202 : W14.cell? ⟨w2.heap.size, 3, none⟩ = some (.string x) := by rw [cell_of_row _ _ _ _ _ _ HF196.out]; rfl
  have hc203 : W14.cell? ⟨w2.heap.size, 4, none⟩ = some (.string o) := by rw [cell_of_row _ _ _ _ _ _ HF196.out]; rfl
  have hc204 : W14.cell? ⟨w2.heap.size, 5, none⟩ = some (.string ⟨#[]⟩) := by rw [cell_of_row _ _ _ _ _ _ HF196.out]; rfl
  have hc205 : W14.cell? ⟨w2.heap.size, 6, none⟩ = some (.int .i64 0) := by rw [cell_of_row _ _ _ _ _ _ HF196.out]; rfl
  have hc206 : W14.cell? ⟨w2.heap.size, 7, none⟩ = some (.int .i64 0) := by rw [cell_of_row _ _ _ _ _ _ HF196.out]; rfl
  have hc207 : W14.cell? ⟨w2.heap.size + 1, 0, none⟩ = some (.string Y) := by rw [cell_of_row _ _ _ _ _ _ HF197.out]; rfl
  have hc208 : W14.cell? ⟨w2.heap.size + 1, 1, none⟩ = some (.int .i64 (q6 : Int)) := by rw [cell_of_row _ _ _ _ _ _ HF197.out]; rfl
  have hc209 : W14.cell? ⟨w2.heap.size + 1, 2, none⟩ = some (.int .i64 0) := by rw [cell_of_row _ _ _ _ _ _ HF197.out]; rfl
  have hz210 : W14.frozen? ⟨w2.heap.size, 5, none⟩ = false := frozen_of_row _ _ _ _ _ HF196.out
  have HF211 := Lib.hid (show (W14.setCell ⟨w2.heap.size, 5, none⟩ (.string n)).heap[w.heap.size]? = some (.cells #[.int .i64 0, .int .i64 0, .int .i64 0, .string ⟨#[]⟩, .string ⟨#[]⟩, .string ⟨#[]⟩, .int .i64 0, .int .i64 0] 37 (0, 0)) by rw [Below.heap_setCell _ _ _ _ (by show w.heap.size ≠ w2.heap.size; omega)]; exact HF195.out)
  have HF212 := Lib.hid (show (W14.setCell ⟨w2.heap.size, 5, none⟩ (.string n)).heap[w2.heap.size]? = some (.cells #[.int .i64 a, .int .i64 b, .int .i64 k, .string x, .string o, .string n, .int .i64 0, .int .i64 0] 37 (0, 0)) by have h := heap_setCell_at (i := 5) (u := .string n) HF196.out; exact h)
  have HF213 := Lib.hid (show (W14.setCell ⟨w2.heap.size, 5, none⟩ (.string n)).heap[w2.heap.size + 1]? = some (.cells #[.string Y, .int .i64 (q6 : Int), .int .i64 0] 70 (0, 0)) by rw [Below.heap_setCell _ _ _ _ (by show w2.heap.size + 1 ≠ w2.heap.size; omega)]; exact HF197.out)
  have HB214 := Lib.hid (HB198.out.setCell (p := ⟨w2.heap.size, 5, none⟩) (by show w.heap.size ≤ w2.heap.size; omega) (.string n))
  have hc215 : (W14.setCell ⟨w2.heap.size, 5, none⟩ (.string n)).cell? ⟨w2.heap.size + 1, 0, none⟩ = some (.string Y) := by rw [cell_of_row _ _ _ _ _ _ HF213.out]; rfl
  have hc216 : (W14.setCell ⟨w2.heap.size, 5, none⟩ (.string n)).cell? ⟨w2.heap.size + 1, 1, none⟩ = some (.int .i64 (q6 : Int)) := by rw [cell_of_row _ _ _ _ _ _ HF213.out]; rfl
  have hc217 : (W14.setCell ⟨w2.heap.size, 5, none⟩ (.string n)).cell? ⟨w2.heap.size + 1, 2, none⟩ = some (.int .i64 0) := by rw [cell_of_row _ _ _ _ _ _ HF213.out]; rfl
  have hc218 : (W14.setCell ⟨w2.heap.size, 5, none⟩ (.string n)).cell? ⟨w2.heap.size, 0, none⟩ = some (.int .i64 a) := by rw [cell_of_row _ _ _ _ _ _ HF212.out]; rfl
  have hc219 : (W14.setCell ⟨w2.heap.size, 5, none⟩ (.string n)).cell? ⟨w2.heap.size, 1, none⟩ = some (.int .i64 b) := by rw [cell_of_row _ _ _ _ _ _ HF212.out]; rfl
  have hc220 : (W14.setCell ⟨w2.heap.size, 5, none⟩ (.string n)).cell? ⟨w2.heap.size, 2, none⟩ = some (.int .i64 k) := by rw [cell_of_row _ _ _ _ _ _ HF212.out]; rfl
  have hc221 : (W14.setCell ⟨w2.heap.size, 5, none⟩ (.string n)).cell? ⟨w2.heap.size, 3, none⟩ = some (.string x) := by rw [cell_of_row _ _ _ _ _ _ HF212.out]; rfl
  have hc222 : (W14.setCell ⟨w2.heap.size, 5, none⟩ (.string n)).cell? ⟨w2.heap.size, 4, none⟩ = some (.string o) := by rw [cell_of_row _ _ _ _ _ _ HF212.out]; rfl
  have hc223 : (W14.setCell ⟨w2.heap.size, 5, none⟩ (.string n)).cell? ⟨w2.heap.size, 5, none⟩ = some (.string n) := by rw [cell_of_row _ _ _ _ _ _ HF212.out]; rfl
  have hc224 : (W14.setCell ⟨w2.heap.size, 5, none⟩ (.string n)).cell? ⟨w2.heap.size, 6, none⟩ = some (.int .i64 0) := by rw [cell_of_row _ _ _ _ _ _ HF212.out]; rfl
  have hc225 : (W14.setCell ⟨w2.heap.size, 5, none⟩ (.string n)).cell? ⟨w2.heap.size, 7, none⟩ = some (.int .i64 0) := by rw [cell_of_row _ _ _ _ _ _ HF212.out]; rfl
  go_wp2_with fail
  refine (H7.out (W14.setCell ⟨w2.heap.size, 5, none⟩ (.string n))).mono ?_
  rintro e w15 ⟨rfl, hb15⟩
  clear hc199 hc200 hc201 hc202 hc203 hc204 hc205 hc206 hc207 hc208 hc209 hz210 hc215 hc216 hc217 hc218 hc219 hc220 hc221 hc222 hc223 hc224 hc225
  have HF226 := Lib.hid (blk_below HF211.out hb15)
  have HF227 := Lib.hid (blk_below HF212.out hb15)
  have HF228 := Lib.hid (blk_below HF213.out hb15)
  have HB229 := Lib.hid (HB214.out.trans (hb15.mono HB214.out.size))
  clear hb15 HB214 HF211 HF212 HF213
  go_wp2_with (first
    | refine wpList_store_rowY rfl 70 (.tmp 8) (.tmp 72) rfl (w2.heap.size + 1) #[.string Y, .int .i64 (q7 : Int), .int .i64 0] rfl rfl 70 _ HF228.out (info_scE _ _ _) rfl (one_scE _ _ _) w.heap.size w HB229.out (by omega) ?_)
  intro W16 hbk hoth hbel _
  have HF230 := Lib.hid (blk_oth HF226.out hoth.out (by omega))
  have HF231 := Lib.hid (blk_oth HF227.out hoth.out (by omega))
  have HF232 := Lib.hid hbk.out
  have HB233 := Lib.hid hbel.out
  clear hbk hoth hbel HB229  HF226 HF227 HF228
  have hc234 : W16.cell? ⟨w2.heap.size, 0, none⟩ = some (.int .i64 a) := by rw [cell_of_row _ _ _ _ _ _ HF231.out]; rfl
  have hc235 : W16.cell? ⟨w2.heap.size, 1, none⟩ = some (.int .i64 b) := by rw [cell_of_row _ _ _ _ _ _ HF231.out]; rfl
  have hc236 : W16.cell? ⟨w2.heap.size, 2, none⟩ = some (.int .i64 k) := by rw [cell_of_row _ _ _ _ _ _ HF231.out]; rfl
  have hc237 : W16.cell? ⟨w2.heap.size, 3, none⟩ = some (.string x) := by rw [cell_of_row _ _ _ _ _ _ HF231.out]; rfl
  have hc238 : W16.cell? ⟨w2.heap.size, 4, none⟩ = some (.string o) := by rw [cell_of_row _ _ _ _ _ _ HF231.out]; rfl
  have hc239 : W16.cell? ⟨w2.heap.size, 5, none⟩ = some (.string n) := by rw [cell_of_row _ _ _ _ _ _ HF231.out]; rfl
  have hc240 : W16.cell? ⟨w2.heap.size, 6, none⟩ = some (.int .i64 0) := by rw [cell_of_row _ _ _ _ _ _ HF231.out]; rfl
  have hc241 : W16.cell? ⟨w2.heap.size, 7, none⟩ = some (.int .i64 0) := by rw [cell_of_row _ _ _ _ _ _ HF231.out]; rfl
  have hc242 : W16.cell? ⟨w2.heap.size + 1, 0, none⟩ = some (.string Y) := by rw [cell_of_row _ _ _ _ _ _ HF232.out]; rfl
  have hc243 : W16.cell? ⟨w2.heap.size + 1, 1, none⟩ = some (.int .i64 (q7 : Int)) := by rw [cell_of_row _ _ _ _ _ _ HF232.out]; rfl
  have hc244 : W16.cell? ⟨w2.heap.size + 1, 2, none⟩ = some (.int .i64 0) := by rw [cell_of_row _ _ _ _ _ _ HF232.out]; rfl
  have hz245 : W16.frozen? ⟨w2.heap.size, 6, none⟩ = false := frozen_of_row _ _ _ _ _ HF231.out
  have HF246 := Lib.hid (show (W16.setCell ⟨w2.heap.size, 6, none⟩ (.int .i64 t)).heap[w.heap.size]? = some (.cells #[.int .i64 0, .int .i64 0, .int .i64 0, .string ⟨#[]⟩, .string ⟨#[]⟩, .string ⟨#[]⟩, .int .i64 0, .int .i64 0] 37 (0, 0)) by rw [Below.heap_setCell _ _ _ _ (by show w.heap.size ≠ w2.heap.size; omega)]; exact HF230.out)
  have HF247 := Lib.hid (show (W16.setCell ⟨w2.heap.size, 6, none⟩ (.int .i64 t)).heap[w2.heap.size]? = some (.cells #[.int .i64 a, .int .i64 b, .int .i64 k, .string x, .string o, .string n, .int .i64 t, .int .i64 0] 37 (0, 0)) by have h := heap_setCell_at (i := 6) (u := .int .i64 t) HF231.out; exact h)
  have HF248 := Lib.hid (show (W16.setCell ⟨w2.heap.size, 6, none⟩ (.int .i64 t)).heap[w2.heap.size + 1]? = some (.cells #[.string Y, .int .i64 (q7 : Int), .int .i64 0] 70 (0, 0)) by rw [Below.heap_setCell _ _ _ _ (by show w2.heap.size + 1 ≠ w2.heap.size; omega)]; exact HF232.out)
  have HB249 := Lib.hid (HB233.out.setCell (p := ⟨w2.heap.size, 6, none⟩) (by show w.heap.size ≤ w2.heap.size; omega) (.int .i64 t))
  have hc250 : (W16.setCell ⟨w2.heap.size, 6, none⟩ (.int .i64 t)).cell? ⟨w2.heap.size + 1, 0, none⟩ = some (.string Y) := by rw [cell_of_row _ _ _ _ _ _ HF248.out]; rfl
  have hc251 : (W16.setCell ⟨w2.heap.size, 6, none⟩ (.int .i64 t)).cell? ⟨w2.heap.size + 1, 1, none⟩ = some (.int .i64 (q7 : Int)) := by rw [cell_of_row _ _ _ _ _ _ HF248.out]; rfl
  have hc252 : (W16.setCell ⟨w2.heap.size, 6, none⟩ (.int .i64 t)).cell? ⟨w2.heap.size + 1, 2, none⟩ = some (.int .i64 0) := by rw [cell_of_row _ _ _ _ _ _ HF248.out]; rfl
  have hc253 : (W16.setCell ⟨w2.heap.size, 6, none⟩ (.int .i64 t)).cell? ⟨w2.heap.size, 0, none⟩ = some (.int .i64 a) := by rw [cell_of_row _ _ _ _ _ _ HF247.out]; rfl
  have hc254 : (W16.setCell ⟨w2.heap.size, 6, none⟩ (.int .i64 t)).cell? ⟨w2.heap.size, 1, none⟩ = some (.int .i64 b) := by rw [cell_of_row _ _ _ _ _ _ HF247.out]; rfl
  have hc255 : (W16.setCell ⟨w2.heap.size, 6, none⟩ (.int .i64 t)).cell? ⟨w2.heap.size, 2, none⟩ = some (.int .i64 k) := by rw [cell_of_row _ _ _ _ _ _ HF247.out]; rfl
  have hc256 : (W16.setCell ⟨w2.heap.size, 6, none⟩ (.int .i64 t)).cell? ⟨w2.heap.size, 3, none⟩ = some (.string x) := by rw [cell_of_row _ _ _ _ _ _ HF247.out]; rfl
  have hc257 : (W16.setCell ⟨w2.heap.size, 6, none⟩ (.int .i64 t)).cell? ⟨w2.heap.size, 4, none⟩ = some (.string o) := by rw [cell_of_row _ _ _ _ _ _ HF247.out]; rfl
  have hc258 : (W16.setCell ⟨w2.heap.size, 6, none⟩ (.int .i64 t)).cell? ⟨w2.heap.size, 5, none⟩ = some (.string n) := by rw [cell_of_row _ _ _ _ _ _ HF247.out]; rfl
  have hc259 : (W16.setCell ⟨w2.heap.size, 6, none⟩ (.int .i64 t)).cell? ⟨w2.heap.size, 6, none⟩ = some (.int .i64 t) := by rw [cell_of_row _ _ _ _ _ _ HF247.out]; rfl
  have hc260 : (W16.setCell ⟨w2.heap.size, 6, none⟩ (.int .i64 t)).cell? ⟨w2.heap.size, 7, none⟩ = some (.int .i64 0) := by rw [cell_of_row _ _ _ _ _ _ HF247.out]; rfl
  go_wp2_with fail
  refine (H8.out (W16.setCell ⟨w2.heap.size, 6, none⟩ (.int .i64 t))).mono ?_
  rintro e w17 ⟨rfl, hb17⟩
  clear hc234 hc235 hc236 hc237 hc238 hc239 hc240 hc241 hc242 hc243 hc244 hz245 hc250 hc251 hc252 hc253 hc254 hc255 hc256 hc257 hc258 hc259 hc260
  have HF261 := Lib.hid (blk_below HF246.out hb17)
  have HF262 := Lib.hid (blk_below HF247.out hb17)
  have HF263 := Lib.hid (blk_below HF248.out hb17)
  have HB264 := Lib.hid (HB249.out.trans (hb17.mono HB249.out.size))
  clear hb17 HB249 HF246 HF247 HF248
  go_wp2_with (first
    | refine wpList_store_rowY rfl 70 (.tmp 8) (.tmp 78) rfl (w2.heap.size + 1) #[.string Y, .int .i64 (q8 : Int), .int .i64 0] rfl rfl 70 _ HF263.out (info_scE _ _ _) rfl (one_scE _ _ _) w.heap.size w HB264.out (by omega) ?_)
  intro W18 hbk hoth hbel _
  have HF265 := Lib.hid (blk_oth HF261.out hoth.out (by omega))
  have HF266 := Lib.hid (blk_oth HF262.out hoth.out (by omega))
  have HF267 := Lib.hid hbk.out
  have HB268 := Lib.hid hbel.out
  clear hbk hoth hbel HB264  HF261 HF262 HF263
  have hc269 : W18.cell? ⟨w2.heap.size, 0, none⟩ = some (.int .i64 a) := by rw [cell_of_row _ _ _ _ _ _ HF266.out]; rfl
  have hc270 : W18.cell? ⟨w2.heap.size, 1, none⟩ = some (.int .i64 b) := by rw [cell_of_row _ _ _ _ _ _ HF266.out]; rfl
  have hc271 : W18.cell? ⟨w2.heap.size, 2, none⟩ = some (.int .i64 k) := by rw [cell_of_row _ _ _ _ _ _ HF266.out]; rfl
  have hc272 : W18.cell? ⟨w2.heap.size, 3, none⟩ = some (.string x) := by rw [cell_of_row _ _ _ _ _ _ HF266.out]; rfl
  have hc273 : W18.cell? ⟨w2.heap.size, 4, none⟩ = some (.string o) := by rw [cell_of_row _ _ _ _ _ _ HF266.out]; rfl
  have hc274 : W18.cell? ⟨w2.heap.size, 5, none⟩ = some (.string n) := by rw [cell_of_row _ _ _ _ _ _ HF266.out]; rfl
  have hc275 : W18.cell? ⟨w2.heap.size, 6, none⟩ = some (.int .i64 t) := by rw [cell_of_row _ _ _ _ _ _ HF266.out]; rfl
  have hc276 : W18.cell? ⟨w2.heap.size, 7, none⟩ = some (.int .i64 0) := by rw [cell_of_row _ _ _ _ _ _ HF266.out]; rfl
  have hc277 : W18.cell? ⟨w2.heap.size + 1, 0, none⟩ = some (.string Y) := by rw [cell_of_row _ _ _ _ _ _ HF267.out]; rfl
  have hc278 : W18.cell? ⟨w2.heap.size + 1, 1, none⟩ = some (.int .i64 (q8 : Int)) := by rw [cell_of_row _ _ _ _ _ _ HF267.out]; rfl
  have hc279 : W18.cell? ⟨w2.heap.size + 1, 2, none⟩ = some (.int .i64 0) := by rw [cell_of_row _ _ _ _ _ _ HF267.out]; rfl
  have hz280 : W18.frozen? ⟨w2.heap.size, 7, none⟩ = false := frozen_of_row _ _ _ _ _ HF266.out
  have HF281 := Lib.hid (show (W18.setCell ⟨w2.heap.size, 7, none⟩ (.int .i64 u)).heap[w.heap.size]? = some (.cells #[.int .i64 0, .int .i64 0, .int .i64 0, .string ⟨#[]⟩, .string ⟨#[]⟩, .string ⟨#[]⟩, .int .i64 0, .int .i64 0] 37 (0, 0)) by rw [Below.heap_setCell _ _ _ _ (by show w.heap.size ≠ w2.heap.size; omega)]; exact HF265.out)
  have HF282 := Lib.hid (show (W18.setCell ⟨w2.heap.size, 7, none⟩ (.int .i64 u)).heap[w2.heap.size]? = some (.cells #[.int .i64 a, .int .i64 b, .int .i64 k, .string x, .string o, .string n, .int .i64 t, .int .i64 u] 37 (0, 0)) by have h := heap_setCell_at (i := 7) (u := .int .i64 u) HF266.out; exact h)
  have HF283 := Lib.hid (show (W18.setCell ⟨w2.heap.size, 7, none⟩ (.int .i64 u)).heap[w2.heap.size + 1]? = some (.cells #[.string Y, .int .i64 (q8 : Int), .int .i64 0] 70 (0, 0)) by rw [Below.heap_setCell _ _ _ _ (by show w2.heap.size + 1 ≠ w2.heap.size; omega)]; exact HF267.out)
  have HB284 := Lib.hid (HB268.out.setCell (p := ⟨w2.heap.size, 7, none⟩) (by show w.heap.size ≤ w2.heap.size; omega) (.int .i64 u))
  have hc285 : (W18.setCell ⟨w2.heap.size, 7, none⟩ (.int .i64 u)).cell? ⟨w2.heap.size + 1, 0, none⟩ = some (.string Y) := by rw [cell_of_row _ _ _ _ _ _ HF283.out]; rfl
  have hc286 : (W18.setCell ⟨w2.heap.size, 7, none⟩ (.int .i64 u)).cell? ⟨w2.heap.size + 1, 1, none⟩ = some (.int .i64 (q8 : Int)) := by rw [cell_of_row _ _ _ _ _ _ HF283.out]; rfl
  have hc287 : (W18.setCell ⟨w2.heap.size, 7, none⟩ (.int .i64 u)).cell? ⟨w2.heap.size + 1, 2, none⟩ = some (.int .i64 0) := by rw [cell_of_row _ _ _ _ _ _ HF283.out]; rfl
  have hc288 : (W18.setCell ⟨w2.heap.size, 7, none⟩ (.int .i64 u)).cell? ⟨w2.heap.size, 0, none⟩ = some (.int .i64 a) := by rw [cell_of_row _ _ _ _ _ _ HF282.out]; rfl
  have hc289 : (W18.setCell ⟨w2.heap.size, 7, none⟩ (.int .i64 u)).cell? ⟨w2.heap.size, 1, none⟩ = some (.int .i64 b) := by rw [cell_of_row _ _ _ _ _ _ HF282.out]; rfl
  have hc290 : (W18.setCell ⟨w2.heap.size, 7, none⟩ (.int .i64 u)).cell? ⟨w2.heap.size, 2, none⟩ = some (.int .i64 k) := by rw [cell_of_row _ _ _ _ _ _ HF282.out]; rfl
  have hc291 : (W18.setCell ⟨w2.heap.size, 7, none⟩ (.int .i64 u)).cell? ⟨w2.heap.size, 3, none⟩ = some (.string x) := by rw [cell_of_row _ _ _ _ _ _ HF282.out]; rfl
  have hc292 : (W18.setCell ⟨w2.heap.size, 7, none⟩ (.int .i64 u)).cell? ⟨w2.heap.size, 4, none⟩ = some (.string o) := by rw [cell_of_row _ _ _ _ _ _ HF282.out]; rfl
  have hc293 : (W18.setCell ⟨w2.heap.size, 7, none⟩ (.int .i64 u)).cell? ⟨w2.heap.size, 5, none⟩ = some (.string n) := by rw [cell_of_row _ _ _ _ _ _ HF282.out]; rfl
  have hc294 : (W18.setCell ⟨w2.heap.size, 7, none⟩ (.int .i64 u)).cell? ⟨w2.heap.size, 6, none⟩ = some (.int .i64 t) := by rw [cell_of_row _ _ _ _ _ _ HF282.out]; rfl
  have hc295 : (W18.setCell ⟨w2.heap.size, 7, none⟩ (.int .i64 u)).cell? ⟨w2.heap.size, 7, none⟩ = some (.int .i64 u) := by rw [cell_of_row _ _ _ _ _ _ HF282.out]; rfl
  go_wp2_with fail
  refine (HIS.out (W18.setCell ⟨w2.heap.size, 7, none⟩ (.int .i64 u))).mono ?_
  rintro e w19 ⟨rfl, hb19⟩
  clear hc269 hc270 hc271 hc272 hc273 hc274 hc275 hc276 hc277 hc278 hc279 hz280 hc285 hc286 hc287 hc288 hc289 hc290 hc291 hc292 hc293 hc294 hc295
  have HF296 := Lib.hid (blk_below HF281.out hb19)
  have HF297 := Lib.hid (blk_below HF282.out hb19)
  have HF298 := Lib.hid (blk_below HF283.out hb19)
  have HB299 := Lib.hid (HB284.out.trans (hb19.mono HB284.out.size))
  clear hb19 HB284 HF281 HF282 HF283
  have hc300 : w19.cell? ⟨w2.heap.size, 0, none⟩ = some (.int .i64 a) := by rw [cell_of_row _ _ _ _ _ _ HF297.out]; rfl
  have hc301 : w19.cell? ⟨w2.heap.size, 1, none⟩ = some (.int .i64 b) := by rw [cell_of_row _ _ _ _ _ _ HF297.out]; rfl
  have hc302 : w19.cell? ⟨w2.heap.size, 2, none⟩ = some (.int .i64 k) := by rw [cell_of_row _ _ _ _ _ _ HF297.out]; rfl
  have hc303 : w19.cell? ⟨w2.heap.size, 3, none⟩ = some (.string x) := by rw [cell_of_row _ _ _ _ _ _ HF297.out]; rfl
  have hc304 : w19.cell? ⟨w2.heap.size, 4, none⟩ = some (.string o) := by rw [cell_of_row _ _ _ _ _ _ HF297.out]; rfl
  have hc305 : w19.cell? ⟨w2.heap.size, 5, none⟩ = some (.string n) := by rw [cell_of_row _ _ _ _ _ _ HF297.out]; rfl
  have hc306 : w19.cell? ⟨w2.heap.size, 6, none⟩ = some (.int .i64 t) := by rw [cell_of_row _ _ _ _ _ _ HF297.out]; rfl
  have hc307 : w19.cell? ⟨w2.heap.size, 7, none⟩ = some (.int .i64 u) := by rw [cell_of_row _ _ _ _ _ _ HF297.out]; rfl
  have hc308 : w19.cell? ⟨w2.heap.size + 1, 0, none⟩ = some (.string Y) := by rw [cell_of_row _ _ _ _ _ _ HF298.out]; rfl
  have hc309 : w19.cell? ⟨w2.heap.size + 1, 1, none⟩ = some (.int .i64 (q8 : Int)) := by rw [cell_of_row _ _ _ _ _ _ HF298.out]; rfl
  have hc310 : w19.cell? ⟨w2.heap.size + 1, 2, none⟩ = some (.int .i64 0) := by rw [cell_of_row _ _ _ _ _ _ HF298.out]; rfl
  go_wp2_with fail
  refine (HPU.out w19).mono ?_
  rintro e w20 ⟨rfl, hb20⟩
  clear hc300 hc301 hc302 hc303 hc304 hc305 hc306 hc307 hc308 hc309 hc310
  have HF311 := Lib.hid (blk_below HF296.out hb20)
  have HF312 := Lib.hid (blk_below HF297.out hb20)
  have HF313 := Lib.hid (blk_below HF298.out hb20)
  have HB314 := Lib.hid (HB299.out.trans (hb20.mono HB299.out.size))
  clear hb20 HB299 HF296 HF297 HF298
  have hc315 : w20.cell? ⟨w2.heap.size, 0, none⟩ = some (.int .i64 a) := by rw [cell_of_row _ _ _ _ _ _ HF312.out]; rfl
  have hc316 : w20.cell? ⟨w2.heap.size, 1, none⟩ = some (.int .i64 b) := by rw [cell_of_row _ _ _ _ _ _ HF312.out]; rfl
  have hc317 : w20.cell? ⟨w2.heap.size, 2, none⟩ = some (.int .i64 k) := by rw [cell_of_row _ _ _ _ _ _ HF312.out]; rfl
  have hc318 : w20.cell? ⟨w2.heap.size, 3, none⟩ = some (.string x) := by rw [cell_of_row _ _ _ _ _ _ HF312.out]; rfl
  have hc319 : w20.cell? ⟨w2.heap.size, 4, none⟩ = some (.string o) := by rw [cell_of_row _ _ _ _ _ _ HF312.out]; rfl
  have hc320 : w20.cell? ⟨w2.heap.size, 5, none⟩ = some (.string n) := by rw [cell_of_row _ _ _ _ _ _ HF312.out]; rfl
  have hc321 : w20.cell? ⟨w2.heap.size, 6, none⟩ = some (.int .i64 t) := by rw [cell_of_row _ _ _ _ _ _ HF312.out]; rfl
  have hc322 : w20.cell? ⟨w2.heap.size, 7, none⟩ = some (.int .i64 u) := by rw [cell_of_row _ _ _ _ _ _ HF312.out]; rfl
  go_wp2_with (first
    | refine wpList_store_rowY rfl 37 (.tmp 2) (.tmp 96) rfl (w.heap.size) #[.int .i64 a, .int .i64 b, .int .i64 k, .string x, .string o, .string n, .int .i64 t, .int .i64 u] rfl rfl 37 _ HF311.out (info_rec _ _ _ _ _ _ _ _) rfl (one_rec _ _ _ _ _ _ _ _) w.heap.size w HB314.out (by omega) ?_
    | refine wpList_load_row rfl 37 (.tmp 7) rfl (w2.heap.size) rfl 37 #[.int .i64 a, .int .i64 b, .int .i64 k, .string x, .string o, .string n, .int .i64 t, .int .i64 u] (0, 0) _ HF312.out Tryd.underlying37 rfl (info_rec _ _ _ _ _ _ _ _) ?_)
  intro W21 hbk hoth hbel _
  clear hc315 hc316 hc317 hc318 hc319 hc320 hc321 hc322
  have HF323 := Lib.hid hbk.out
  have HF324 := Lib.hid (blk_oth HF312.out hoth.out (by omega))
  have HF325 := Lib.hid (blk_oth HF313.out hoth.out (by omega))
  have HB326 := Lib.hid hbel.out
  clear hbk hoth hbel HB314  HF311 HF312 HF313
  go_wp2_with fail
  refine bodyPost_ret (results_ctY rfl _ _ (w.heap.size) #[.int .i64 a, .int .i64 b, .int .i64 k, .string x, .string o, .string n, .int .i64 t, .int .i64 u] rfl (run_loadVar_row _ (w.heap.size) 37 37 _ (0, 0) _ HF323.out Tryd.underlying37 rfl (info_rec _ _ _ _ _ _ _ _))) rfl ?_
  exact ⟨rfl, HB326.out⟩
set_option maxHeartbeats 16000000 in
set_option maxRecDepth 100000 in
theorem ertake_no (S : ByteArray) (w : World) (hS : S.size ≤ 1000) (hno : ¬ IsRec S) :
    Calls Tryd.prog 22 #[.string S] w fun e w' => e = .returned (.tuple #[.agg recZ, .bool false]) ∧ Below w.heap.size w w' := by
  have HBR := Lib.hid (fun W : World => rbare_any S W hS)
  unfold recZ
  cases hb : bareB S with
  | false =>
    rw [rbareV_no hb] at HBR
    clear hb hno
    have HB1 := Lib.hid (Below.refl w.heap.size w)
    go_enter Tryd.func22, Tryd.ntmps22
    go_wp2_with fail
    have HF2 := Lib.hid (blk_new w (.cells #[.int .i64 0, .int .i64 0, .int .i64 0, .string ⟨#[]⟩, .string ⟨#[]⟩, .string ⟨#[]⟩, .int .i64 0, .int .i64 0] 37 (0, 0)))
    have HB3 := Lib.hid (HB1.out.alloc HB1.out.size (.cells #[.int .i64 0, .int .i64 0, .int .i64 0, .string ⟨#[]⟩, .string ⟨#[]⟩, .string ⟨#[]⟩, .int .i64 0, .int .i64 0] 37 (0, 0)))
    clear HB1
    refine (HBR.out (w.alloc (.cells #[.int .i64 0, .int .i64 0, .int .i64 0, .string ⟨#[]⟩, .string ⟨#[]⟩, .string ⟨#[]⟩, .int .i64 0, .int .i64 0] 37 (0, 0)))).mono ?_
    rintro e w1 ⟨rfl, hb1⟩
    have HF4 := Lib.hid (blk_below HF2.out hb1)
    have HB5 := Lib.hid (HB3.out.trans (hb1.mono HB3.out.size))
    clear hb1 HB3 HF2
    go_wp2_with (first
      | refine wpList_store_rowY rfl 37 (.tmp 2) (.tmp 16) rfl (w.heap.size) #[.int .i64 0, .int .i64 0, .int .i64 0, .string ⟨#[]⟩, .string ⟨#[]⟩, .string ⟨#[]⟩, .int .i64 0, .int .i64 0] rfl rfl 37 _ HF4.out (info_rec _ _ _ _ _ _ _ _) rfl (one_rec _ _ _ _ _ _ _ _) w.heap.size w HB5.out (by omega) ?_)
    intro W2 hbk hoth hbel _
    have HF6 := Lib.hid hbk.out
    have HB7 := Lib.hid hbel.out
    clear hbk hoth hbel HB5  HF4
    go_wp2_with fail
    refine bodyPost_ret (results_ctY rfl _ _ (w.heap.size) #[.int .i64 0, .int .i64 0, .int .i64 0, .string ⟨#[]⟩, .string ⟨#[]⟩, .string ⟨#[]⟩, .int .i64 0, .int .i64 0] rfl (run_loadVar_row _ (w.heap.size) 37 37 _ (0, 0) _ HF6.out Tryd.underlying37 rfl (info_rec _ _ _ _ _ _ _ _))) rfl ?_
    exact ⟨rfl, HB7.out⟩
  | true =>
    unfold rbareV at HBR
    rw [hb, if_pos rfl] at HBR
    obtain ⟨U, hU⟩ : ∃ U, bareT S = U := ⟨_, rfl⟩
    have hUs : U.size ≤ 1000 := by rw [← hU]; have := (bare_of S hb).2.1; omega
    rw [hU] at HBR
    have HOP := Lib.hid (fun (W : World) => refOpen_any U W (by omega))
    cases hse : sealed U with
    | false =>
      rw [opened_noY _ hse] at HOP
      clear hb hU hUs hse hno
      have HB1 := Lib.hid (Below.refl w.heap.size w)
      go_enter Tryd.func22, Tryd.ntmps22
      go_wp2_with fail
      have HF2 := Lib.hid (blk_new w (.cells #[.int .i64 0, .int .i64 0, .int .i64 0, .string ⟨#[]⟩, .string ⟨#[]⟩, .string ⟨#[]⟩, .int .i64 0, .int .i64 0] 37 (0, 0)))
      have HB3 := Lib.hid (HB1.out.alloc HB1.out.size (.cells #[.int .i64 0, .int .i64 0, .int .i64 0, .string ⟨#[]⟩, .string ⟨#[]⟩, .string ⟨#[]⟩, .int .i64 0, .int .i64 0] 37 (0, 0)))
      clear HB1
      refine (HBR.out (w.alloc (.cells #[.int .i64 0, .int .i64 0, .int .i64 0, .string ⟨#[]⟩, .string ⟨#[]⟩, .string ⟨#[]⟩, .int .i64 0, .int .i64 0] 37 (0, 0)))).mono ?_
      rintro e w1 ⟨rfl, hb1⟩
      have HF4 := Lib.hid (blk_below HF2.out hb1)
      have HB5 := Lib.hid (HB3.out.trans (hb1.mono HB3.out.size))
      clear hb1 HB3 HF2
      go_wp2_with fail
      refine (HOP.out w1).mono ?_
      rintro e w2 ⟨rfl, hb2⟩
      have HF6 := Lib.hid (blk_below HF4.out hb2)
      have HB7 := Lib.hid (HB5.out.trans (hb2.mono HB5.out.size))
      clear hb2 HB5 HF4
      go_wp2_with (first
        | refine wpList_store_rowY rfl 37 (.tmp 2) (.tmp 29) rfl (w.heap.size) #[.int .i64 0, .int .i64 0, .int .i64 0, .string ⟨#[]⟩, .string ⟨#[]⟩, .string ⟨#[]⟩, .int .i64 0, .int .i64 0] rfl rfl 37 _ HF6.out (info_rec _ _ _ _ _ _ _ _) rfl (one_rec _ _ _ _ _ _ _ _) w.heap.size w HB7.out (by omega) ?_)
      intro W3 hbk hoth hbel _
      have HF8 := Lib.hid hbk.out
      have HB9 := Lib.hid hbel.out
      clear hbk hoth hbel HB7  HF6
      go_wp2_with fail
      refine bodyPost_ret (results_ctY rfl _ _ (w.heap.size) #[.int .i64 0, .int .i64 0, .int .i64 0, .string ⟨#[]⟩, .string ⟨#[]⟩, .string ⟨#[]⟩, .int .i64 0, .int .i64 0] rfl (run_loadVar_row _ (w.heap.size) 37 37 _ (0, 0) _ HF8.out Tryd.underlying37 rfl (info_rec _ _ _ _ _ _ _ _))) rfl ?_
      exact ⟨rfl, HB9.out⟩
    | true =>
      rw [opened_yesY _ hse] at HOP
      obtain ⟨X, hX⟩ : ∃ X, U.extract 0 (U.size - 4) = X := ⟨_, rfl⟩
      rw [hX] at HOP
      have hXs : X.size ≤ 1000 := by rw [← hX, ByteArray.size_extract]; omega
      by_cases hX0 : X.size = 0
      · have hXl : decide ((X.size : Int) < 1) = true := decide_eq_true (by omega)
        have hXl3 : decide (X.size < 1) = true := decide_eq_true (by omega)
        clear hb hU hUs hse hno hX hX0
        have HB1 := Lib.hid (Below.refl w.heap.size w)
        go_enter Tryd.func22, Tryd.ntmps22
        go_wp2_with fail
        have HF2 := Lib.hid (blk_new w (.cells #[.int .i64 0, .int .i64 0, .int .i64 0, .string ⟨#[]⟩, .string ⟨#[]⟩, .string ⟨#[]⟩, .int .i64 0, .int .i64 0] 37 (0, 0)))
        have HB3 := Lib.hid (HB1.out.alloc HB1.out.size (.cells #[.int .i64 0, .int .i64 0, .int .i64 0, .string ⟨#[]⟩, .string ⟨#[]⟩, .string ⟨#[]⟩, .int .i64 0, .int .i64 0] 37 (0, 0)))
        clear HB1
        refine (HBR.out (w.alloc (.cells #[.int .i64 0, .int .i64 0, .int .i64 0, .string ⟨#[]⟩, .string ⟨#[]⟩, .string ⟨#[]⟩, .int .i64 0, .int .i64 0] 37 (0, 0)))).mono ?_
        rintro e w1 ⟨rfl, hb1⟩
        have HF4 := Lib.hid (blk_below HF2.out hb1)
        have HB5 := Lib.hid (HB3.out.trans (hb1.mono HB3.out.size))
        clear hb1 HB3 HF2
        go_wp2_with fail
        refine (HOP.out w1).mono ?_
        rintro e w2 ⟨rfl, hb2⟩
        have HF6 := Lib.hid (blk_below HF4.out hb2)
        have HB7 := Lib.hid (HB5.out.trans (hb2.mono HB5.out.size))
        clear hb2 HB5 HF4
        go_wp2_with (first
          | refine wpList_store_rowY rfl 37 (.tmp 2) (.tmp 29) rfl (w.heap.size) #[.int .i64 0, .int .i64 0, .int .i64 0, .string ⟨#[]⟩, .string ⟨#[]⟩, .string ⟨#[]⟩, .int .i64 0, .int .i64 0] rfl rfl 37 _ HF6.out (info_rec _ _ _ _ _ _ _ _) rfl (one_rec _ _ _ _ _ _ _ _) w.heap.size w HB7.out (by omega) ?_)
        intro W3 hbk hoth hbel _
        have HF8 := Lib.hid hbk.out
        have HB9 := Lib.hid hbel.out
        clear hbk hoth hbel HB7  HF6
        go_wp2_with fail
        refine bodyPost_ret (results_ctY rfl _ _ (w.heap.size) #[.int .i64 0, .int .i64 0, .int .i64 0, .string ⟨#[]⟩, .string ⟨#[]⟩, .string ⟨#[]⟩, .int .i64 0, .int .i64 0] rfl (run_loadVar_row _ (w.heap.size) 37 37 _ (0, 0) _ HF8.out Tryd.underlying37 rfl (info_rec _ _ _ _ _ _ _ _))) rfl ?_
        exact ⟨rfl, HB9.out⟩
      · have hXl : decide ((X.size : Int) < 1) = false := decide_eq_false (by omega)
        have hXl3 : decide (X.size < 1) = false := decide_eq_false (by omega)
        have hXl2 : (1 : Int) ≤ (X.size : Int) := by omega
        obtain ⟨Y, hY⟩ : ∃ Y, X.extract 1 X.size = Y := ⟨_, rfl⟩
        have hYs : Y.size ≤ 1000 := by rw [← hY, ByteArray.size_extract]; omega
        obtain ⟨a, q1, e1, h1⟩ : ∃ a b c, Rd.num Y 0 0 4294967296 = (a, b, c) := ⟨_, _, _, rfl⟩
        obtain ⟨b, q2, e2, h2⟩ : ∃ a b c, Rd.num Y q1 e1 4294967296 = (a, b, c) := ⟨_, _, _, rfl⟩
        obtain ⟨k, q3, e3, h3⟩ : ∃ a b c, Rd.num Y q2 e2 4294967296 = (a, b, c) := ⟨_, _, _, rfl⟩
        obtain ⟨x, q4, e4, h4⟩ : ∃ a b c, Rd.text Y q3 e3 128 = (a, b, c) := ⟨_, _, _, rfl⟩
        obtain ⟨o, q5, e5, h5⟩ : ∃ a b c, Rd.text Y q4 e4 128 = (a, b, c) := ⟨_, _, _, rfl⟩
        obtain ⟨n, q6, e6, h6⟩ : ∃ a b c, Rd.text Y q5 e5 128 = (a, b, c) := ⟨_, _, _, rfl⟩
        obtain ⟨t, q7, e7, h7⟩ : ∃ a b c, Rd.num Y q6 e6 4294967296 = (a, b, c) := ⟨_, _, _, rfl⟩
        obtain ⟨u, q8, e8, h8⟩ : ∃ a b c, Rd.num Y q7 e7 4294967296 = (a, b, c) := ⟨_, _, _, rfl⟩
        have l1 : q1 ≤ Y.size := by have := Rd.num_le Y 0 0 4294967296 (Nat.zero_le _); rw [h1] at this; exact this
        have l2 : q2 ≤ Y.size := by have := Rd.num_le Y q1 e1 4294967296 l1; rw [h2] at this; exact this
        have l3 : q3 ≤ Y.size := by have := Rd.num_le Y q2 e2 4294967296 l2; rw [h3] at this; exact this
        have l4 : q4 ≤ Y.size := by have := Rd.text_le Y q3 e3 128 l3; rw [h4] at this; exact this
        have l5 : q5 ≤ Y.size := by have := Rd.text_le Y q4 e4 128 l4; rw [h5] at this; exact this
        have l6 : q6 ≤ Y.size := by have := Rd.text_le Y q5 e5 128 l5; rw [h6] at this; exact this
        have l7 : q7 ≤ Y.size := by have := Rd.num_le Y q6 e6 4294967296 l6; rw [h7] at this; exact this
        have l8 : q8 ≤ Y.size := by have := Rd.num_le Y q7 e7 4294967296 l7; rw [h8] at this; exact this
        have H1 := Lib.hid (fun W : World => rnumE Y 0 0 4294967296 _ _ _ W (by omega) (Nat.zero_le _) (by omega) (by omega) h1)
        have H2 := Lib.hid (fun W : World => rnumE Y q1 e1 4294967296 _ _ _ W (by omega) l1 (by omega) (by omega) h2)
        have H3 := Lib.hid (fun W : World => rnumE Y q2 e2 4294967296 _ _ _ W (by omega) l2 (by omega) (by omega) h3)
        have H4 := Lib.hid (fun W : World => rtextE Y q3 e3 128 _ _ _ W (by omega) l3 (by omega) (by omega) h4)
        have H5 := Lib.hid (fun W : World => rtextE Y q4 e4 128 _ _ _ W (by omega) l4 (by omega) (by omega) h5)
        have H6 := Lib.hid (fun W : World => rtextE Y q5 e5 128 _ _ _ W (by omega) l5 (by omega) (by omega) h6)
        have H7 := Lib.hid (fun W : World => rnumE Y q6 e6 4294967296 _ _ _ W (by omega) l6 (by omega) (by omega) h7)
        have H8 := Lib.hid (fun W : World => rnumE Y q7 e7 4294967296 _ _ _ W (by omega) l7 (by omega) (by omega) h8)
        have hxs : x.size ≤ maxLen := by
          have := Rd.fix_size Y (Rd.num Y q3 e3 128).2.1 (Rd.num Y q3 e3 128).2.2 (Rd.num Y q3 e3 128).1
          have e : (Rd.text Y q3 e3 128).1.size ≤ Y.size := this
          rw [h4] at e
          dsimp only at e
          unfold maxLen; omega
        have HIS := Lib.hid (fun W : World => ris_any a b k x o n t u W hxs)
        have HPU := Lib.hid (fun W : World => erputR_any a b k x o n t u W hxs)
        have hrec := fun hr he => hno ⟨a, b, k, x, o, n, t, u, hr, he⟩
        clear hb hU hUs hse hno hX hXs hX0 hYs h1 h2 h3 h4 h5 h6 h7 h8 l1 l2 l3 l4 l5 l6 l7 l8 hxs
        by_cases he : e8 = 0
        · subst he
          cases hr : rok a b k x o n t u with
          | false =>
            rw [hr] at HIS
            clear hr hrec HPU
            have HB1 := Lib.hid (Below.refl w.heap.size w)
            go_enter Tryd.func22, Tryd.ntmps22
            go_wp2_with fail
            have HF2 := Lib.hid (blk_new w (.cells #[.int .i64 0, .int .i64 0, .int .i64 0, .string ⟨#[]⟩, .string ⟨#[]⟩, .string ⟨#[]⟩, .int .i64 0, .int .i64 0] 37 (0, 0)))
            have HB3 := Lib.hid (HB1.out.alloc HB1.out.size (.cells #[.int .i64 0, .int .i64 0, .int .i64 0, .string ⟨#[]⟩, .string ⟨#[]⟩, .string ⟨#[]⟩, .int .i64 0, .int .i64 0] 37 (0, 0)))
            clear HB1
            refine (HBR.out (w.alloc (.cells #[.int .i64 0, .int .i64 0, .int .i64 0, .string ⟨#[]⟩, .string ⟨#[]⟩, .string ⟨#[]⟩, .int .i64 0, .int .i64 0] 37 (0, 0)))).mono ?_
            rintro e w1 ⟨rfl, hb1⟩
            have HF4 := Lib.hid (blk_below HF2.out hb1)
            have HB5 := Lib.hid (HB3.out.trans (hb1.mono HB3.out.size))
            clear hb1 HB3 HF2
            go_wp2_with fail
            refine (HOP.out w1).mono ?_
            rintro e w2 ⟨rfl, hb2⟩
            have HF6 := Lib.hid (blk_below HF4.out hb2)
            have HB7 := Lib.hid (HB5.out.trans (hb2.mono HB5.out.size))
            clear hb2 HB5 HF4
            have hk8 : w.heap.size < w2.heap.size := lt_of_block HF6.out
            have HF9 := Lib.hid (blk_alloc HF6.out (.cells #[.int .i64 0, .int .i64 0, .int .i64 0, .string ⟨#[]⟩, .string ⟨#[]⟩, .string ⟨#[]⟩, .int .i64 0, .int .i64 0] 37 (0, 0)))
            have HF10 := Lib.hid (blk_new w2 (.cells #[.int .i64 0, .int .i64 0, .int .i64 0, .string ⟨#[]⟩, .string ⟨#[]⟩, .string ⟨#[]⟩, .int .i64 0, .int .i64 0] 37 (0, 0)))
            have HB11 := Lib.hid (HB7.out.alloc HB7.out.size (.cells #[.int .i64 0, .int .i64 0, .int .i64 0, .string ⟨#[]⟩, .string ⟨#[]⟩, .string ⟨#[]⟩, .int .i64 0, .int .i64 0] 37 (0, 0)))
            clear HB7
            have HF12 := Lib.hid (blk_alloc HF9.out (.cells #[.string Y, .int .i64 0, .int .i64 0] 70 (0, 0)))
            clear HF9
            have HF13 := Lib.hid (blk_alloc HF10.out (.cells #[.string Y, .int .i64 0, .int .i64 0] 70 (0, 0)))
            clear HF10
            have HF14 : Hid (((w2.alloc (.cells #[.int .i64 0, .int .i64 0, .int .i64 0, .string ⟨#[]⟩, .string ⟨#[]⟩, .string ⟨#[]⟩, .int .i64 0, .int .i64 0] 37 (0, 0))).alloc (.cells #[.string Y, .int .i64 0, .int .i64 0] 70 (0, 0))).heap[w2.heap.size + 1]? = some (.cells #[.string Y, .int .i64 0, .int .i64 0] 70 (0, 0))) := Lib.hid (blk_newN (W := (w2.alloc (.cells #[.int .i64 0, .int .i64 0, .int .i64 0, .string ⟨#[]⟩, .string ⟨#[]⟩, .string ⟨#[]⟩, .int .i64 0, .int .i64 0] 37 (0, 0)))) (o := (.cells #[.string Y, .int .i64 0, .int .i64 0] 70 (0, 0))) (by simp))
            have HB15 := Lib.hid (HB11.out.alloc (by have := HB11.out.size; simp at this ⊢ <;> omega) (.cells #[.string Y, .int .i64 0, .int .i64 0] 70 (0, 0)))
            clear HB11
            go_wp2_with fail
            refine (H1.out ((w2.alloc (.cells #[.int .i64 0, .int .i64 0, .int .i64 0, .string ⟨#[]⟩, .string ⟨#[]⟩, .string ⟨#[]⟩, .int .i64 0, .int .i64 0] 37 (0, 0))).alloc (.cells #[.string Y, .int .i64 0, .int .i64 0] 70 (0, 0)))).mono ?_
            rintro e w3 ⟨rfl, hb3⟩
            have HF16 := Lib.hid (blk_below HF12.out hb3)
            have HF17 := Lib.hid (blk_below HF13.out hb3)
            have HF18 := Lib.hid (blk_below HF14.out hb3)
            have HB19 := Lib.hid (HB15.out.trans (hb3.mono HB15.out.size))
            clear hb3 HB15 HF12 HF6 HF13 HF14
            go_wp2_with (first
              | refine wpList_store_rowY rfl 70 (.tmp 8) (.tmp 36) rfl (w2.heap.size + 1) #[.string Y, .int .i64 (q1 : Int), .int .i64 e1] rfl rfl 70 _ HF18.out (info_scE _ _ _) rfl (one_scE _ _ _) w.heap.size w HB19.out (by omega) ?_)
            intro W4 hbk hoth hbel _
            have HF20 := Lib.hid (blk_oth HF16.out hoth.out (by omega))
            have HF21 := Lib.hid (blk_oth HF17.out hoth.out (by omega))
            have HF22 := Lib.hid hbk.out
            have HB23 := Lib.hid hbel.out
            clear hbk hoth hbel HB19  HF16 HF17 HF18
            have hc24 : W4.cell? ⟨w2.heap.size, 0, none⟩ = some (.int .i64 0) := by rw [cell_of_row _ _ _ _ _ _ HF21.out]; rfl
            have hc25 : W4.cell? ⟨w2.heap.size, 1, none⟩ = some (.int .i64 0) := by rw [cell_of_row _ _ _ _ _ _ HF21.out]; rfl
            have hc26 : W4.cell? ⟨w2.heap.size, 2, none⟩ = some (.int .i64 0) := by rw [cell_of_row _ _ _ _ _ _ HF21.out]; rfl
            have hc27 : W4.cell? ⟨w2.heap.size, 3, none⟩ = some (.string ⟨#[]⟩) := by rw [cell_of_row _ _ _ _ _ _ HF21.out]; rfl
            have hc28 : W4.cell? ⟨w2.heap.size, 4, none⟩ = some (.string ⟨#[]⟩) := by rw [cell_of_row _ _ _ _ _ _ HF21.out]; rfl
            have hc29 : W4.cell? ⟨w2.heap.size, 5, none⟩ = some (.string ⟨#[]⟩) := by rw [cell_of_row _ _ _ _ _ _ HF21.out]; rfl
            have hc30 : W4.cell? ⟨w2.heap.size, 6, none⟩ = some (.int .i64 0) := by rw [cell_of_row _ _ _ _ _ _ HF21.out]; rfl
            have hc31 : W4.cell? ⟨w2.heap.size, 7, none⟩ = some (.int .i64 0) := by rw [cell_of_row _ _ _ _ _ _ HF21.out]; rfl
            have hc32 : W4.cell? ⟨w2.heap.size + 1, 0, none⟩ = some (.string Y) := by rw [cell_of_row _ _ _ _ _ _ HF22.out]; rfl
            have hc33 : W4.cell? ⟨w2.heap.size + 1, 1, none⟩ = some (.int .i64 (q1 : Int)) := by rw [cell_of_row _ _ _ _ _ _ HF22.out]; rfl
            have hc34 : W4.cell? ⟨w2.heap.size + 1, 2, none⟩ = some (.int .i64 e1) := by rw [cell_of_row _ _ _ _ _ _ HF22.out]; rfl
            have hz35 : W4.frozen? ⟨w2.heap.size, 0, none⟩ = false := frozen_of_row _ _ _ _ _ HF21.out
            have HF36 := Lib.hid (show (W4.setCell ⟨w2.heap.size, 0, none⟩ (.int .i64 a)).heap[w.heap.size]? = some (.cells #[.int .i64 0, .int .i64 0, .int .i64 0, .string ⟨#[]⟩, .string ⟨#[]⟩, .string ⟨#[]⟩, .int .i64 0, .int .i64 0] 37 (0, 0)) by rw [Below.heap_setCell _ _ _ _ (by show w.heap.size ≠ w2.heap.size; omega)]; exact HF20.out)
            have HF37 := Lib.hid (show (W4.setCell ⟨w2.heap.size, 0, none⟩ (.int .i64 a)).heap[w2.heap.size]? = some (.cells #[.int .i64 a, .int .i64 0, .int .i64 0, .string ⟨#[]⟩, .string ⟨#[]⟩, .string ⟨#[]⟩, .int .i64 0, .int .i64 0] 37 (0, 0)) by have h := heap_setCell_at (i := 0) (u := .int .i64 a) HF21.out; exact h)
            have HF38 := Lib.hid (show (W4.setCell ⟨w2.heap.size, 0, none⟩ (.int .i64 a)).heap[w2.heap.size + 1]? = some (.cells #[.string Y, .int .i64 (q1 : Int), .int .i64 e1] 70 (0, 0)) by rw [Below.heap_setCell _ _ _ _ (by show w2.heap.size + 1 ≠ w2.heap.size; omega)]; exact HF22.out)
            have HB39 := Lib.hid (HB23.out.setCell (p := ⟨w2.heap.size, 0, none⟩) (by show w.heap.size ≤ w2.heap.size; omega) (.int .i64 a))
            have hc40 : (W4.setCell ⟨w2.heap.size, 0, none⟩ (.int .i64 a)).cell? ⟨w2.heap.size + 1, 0, none⟩ = some (.string Y) := by rw [cell_of_row _ _ _ _ _ _ HF38.out]; rfl
            have hc41 : (W4.setCell ⟨w2.heap.size, 0, none⟩ (.int .i64 a)).cell? ⟨w2.heap.size + 1, 1, none⟩ = some (.int .i64 (q1 : Int)) := by rw [cell_of_row _ _ _ _ _ _ HF38.out]; rfl
            have hc42 : (W4.setCell ⟨w2.heap.size, 0, none⟩ (.int .i64 a)).cell? ⟨w2.heap.size + 1, 2, none⟩ = some (.int .i64 e1) := by rw [cell_of_row _ _ _ _ _ _ HF38.out]; rfl
            have hc43 : (W4.setCell ⟨w2.heap.size, 0, none⟩ (.int .i64 a)).cell? ⟨w2.heap.size, 0, none⟩ = some (.int .i64 a) := by rw [cell_of_row _ _ _ _ _ _ HF37.out]; rfl
            have hc44 : (W4.setCell ⟨w2.heap.size, 0, none⟩ (.int .i64 a)).cell? ⟨w2.heap.size, 1, none⟩ = some (.int .i64 0) := by rw [cell_of_row _ _ _ _ _ _ HF37.out]; rfl
            have hc45 : (W4.setCell ⟨w2.heap.size, 0, none⟩ (.int .i64 a)).cell? ⟨w2.heap.size, 2, none⟩ = some (.int .i64 0) := by rw [cell_of_row _ _ _ _ _ _ HF37.out]; rfl
            have hc46 : (W4.setCell ⟨w2.heap.size, 0, none⟩ (.int .i64 a)).cell? ⟨w2.heap.size, 3, none⟩ = some (.string ⟨#[]⟩) := by rw [cell_of_row _ _ _ _ _ _ HF37.out]; rfl
            have hc47 : (W4.setCell ⟨w2.heap.size, 0, none⟩ (.int .i64 a)).cell? ⟨w2.heap.size, 4, none⟩ = some (.string ⟨#[]⟩) := by rw [cell_of_row _ _ _ _ _ _ HF37.out]; rfl
            have hc48 : (W4.setCell ⟨w2.heap.size, 0, none⟩ (.int .i64 a)).cell? ⟨w2.heap.size, 5, none⟩ = some (.string ⟨#[]⟩) := by rw [cell_of_row _ _ _ _ _ _ HF37.out]; rfl
            have hc49 : (W4.setCell ⟨w2.heap.size, 0, none⟩ (.int .i64 a)).cell? ⟨w2.heap.size, 6, none⟩ = some (.int .i64 0) := by rw [cell_of_row _ _ _ _ _ _ HF37.out]; rfl
            have hc50 : (W4.setCell ⟨w2.heap.size, 0, none⟩ (.int .i64 a)).cell? ⟨w2.heap.size, 7, none⟩ = some (.int .i64 0) := by rw [cell_of_row _ _ _ _ _ _ HF37.out]; rfl
            go_wp2_with fail
            refine (H2.out (W4.setCell ⟨w2.heap.size, 0, none⟩ (.int .i64 a))).mono ?_
            rintro e w5 ⟨rfl, hb5⟩
            clear hc24 hc25 hc26 hc27 hc28 hc29 hc30 hc31 hc32 hc33 hc34 hz35 hc40 hc41 hc42 hc43 hc44 hc45 hc46 hc47 hc48 hc49 hc50
            have HF51 := Lib.hid (blk_below HF36.out hb5)
            have HF52 := Lib.hid (blk_below HF37.out hb5)
            have HF53 := Lib.hid (blk_below HF38.out hb5)
            have HB54 := Lib.hid (HB39.out.trans (hb5.mono HB39.out.size))
            clear hb5 HB39 HF36 HF37 HF38
            go_wp2_with (first
              | refine wpList_store_rowY rfl 70 (.tmp 8) (.tmp 42) rfl (w2.heap.size + 1) #[.string Y, .int .i64 (q2 : Int), .int .i64 e2] rfl rfl 70 _ HF53.out (info_scE _ _ _) rfl (one_scE _ _ _) w.heap.size w HB54.out (by omega) ?_)
            intro W6 hbk hoth hbel _
            have HF55 := Lib.hid (blk_oth HF51.out hoth.out (by omega))
            have HF56 := Lib.hid (blk_oth HF52.out hoth.out (by omega))
            have HF57 := Lib.hid hbk.out
            have HB58 := Lib.hid hbel.out
            clear hbk hoth hbel HB54  HF51 HF52 HF53
            have hc59 : W6.cell? ⟨w2.heap.size, 0, none⟩ = some (.int .i64 a) := by rw [cell_of_row _ _ _ _ _ _ HF56.out]; rfl
            have hc60 : W6.cell? ⟨w2.heap.size, 1, none⟩ = some (.int .i64 0) := by rw [cell_of_row _ _ _ _ _ _ HF56.out]; rfl
            have hc61 : W6.cell? ⟨w2.heap.size, 2, none⟩ = some (.int .i64 0) := by rw [cell_of_row _ _ _ _ _ _ HF56.out]; rfl
            have hc62 : W6.cell? ⟨w2.heap.size, 3, none⟩ = some (.string ⟨#[]⟩) := by rw [cell_of_row _ _ _ _ _ _ HF56.out]; rfl
            have hc63 : W6.cell? ⟨w2.heap.size, 4, none⟩ = some (.string ⟨#[]⟩) := by rw [cell_of_row _ _ _ _ _ _ HF56.out]; rfl
            have hc64 : W6.cell? ⟨w2.heap.size, 5, none⟩ = some (.string ⟨#[]⟩) := by rw [cell_of_row _ _ _ _ _ _ HF56.out]; rfl
            have hc65 : W6.cell? ⟨w2.heap.size, 6, none⟩ = some (.int .i64 0) := by rw [cell_of_row _ _ _ _ _ _ HF56.out]; rfl
            have hc66 : W6.cell? ⟨w2.heap.size, 7, none⟩ = some (.int .i64 0) := by rw [cell_of_row _ _ _ _ _ _ HF56.out]; rfl
            have hc67 : W6.cell? ⟨w2.heap.size + 1, 0, none⟩ = some (.string Y) := by rw [cell_of_row _ _ _ _ _ _ HF57.out]; rfl
            have hc68 : W6.cell? ⟨w2.heap.size + 1, 1, none⟩ = some (.int .i64 (q2 : Int)) := by rw [cell_of_row _ _ _ _ _ _ HF57.out]; rfl
            have hc69 : W6.cell? ⟨w2.heap.size + 1, 2, none⟩ = some (.int .i64 e2) := by rw [cell_of_row _ _ _ _ _ _ HF57.out]; rfl
            have hz70 : W6.frozen? ⟨w2.heap.size, 1, none⟩ = false := frozen_of_row _ _ _ _ _ HF56.out
            have HF71 := Lib.hid (show (W6.setCell ⟨w2.heap.size, 1, none⟩ (.int .i64 b)).heap[w.heap.size]? = some (.cells #[.int .i64 0, .int .i64 0, .int .i64 0, .string ⟨#[]⟩, .string ⟨#[]⟩, .string ⟨#[]⟩, .int .i64 0, .int .i64 0] 37 (0, 0)) by rw [Below.heap_setCell _ _ _ _ (by show w.heap.size ≠ w2.heap.size; omega)]; exact HF55.out)
            have HF72 := Lib.hid (show (W6.setCell ⟨w2.heap.size, 1, none⟩ (.int .i64 b)).heap[w2.heap.size]? = some (.cells #[.int .i64 a, .int .i64 b, .int .i64 0, .string ⟨#[]⟩, .string ⟨#[]⟩, .string ⟨#[]⟩, .int .i64 0, .int .i64 0] 37 (0, 0)) by have h := heap_setCell_at (i := 1) (u := .int .i64 b) HF56.out; exact h)
            have HF73 := Lib.hid (show (W6.setCell ⟨w2.heap.size, 1, none⟩ (.int .i64 b)).heap[w2.heap.size + 1]? = some (.cells #[.string Y, .int .i64 (q2 : Int), .int .i64 e2] 70 (0, 0)) by rw [Below.heap_setCell _ _ _ _ (by show w2.heap.size + 1 ≠ w2.heap.size; omega)]; exact HF57.out)
            have HB74 := Lib.hid (HB58.out.setCell (p := ⟨w2.heap.size, 1, none⟩) (by show w.heap.size ≤ w2.heap.size; omega) (.int .i64 b))
            have hc75 : (W6.setCell ⟨w2.heap.size, 1, none⟩ (.int .i64 b)).cell? ⟨w2.heap.size + 1, 0, none⟩ = some (.string Y) := by rw [cell_of_row _ _ _ _ _ _ HF73.out]; rfl
            have hc76 : (W6.setCell ⟨w2.heap.size, 1, none⟩ (.int .i64 b)).cell? ⟨w2.heap.size + 1, 1, none⟩ = some (.int .i64 (q2 : Int)) := by rw [cell_of_row _ _ _ _ _ _ HF73.out]; rfl
            have hc77 : (W6.setCell ⟨w2.heap.size, 1, none⟩ (.int .i64 b)).cell? ⟨w2.heap.size + 1, 2, none⟩ = some (.int .i64 e2) := by rw [cell_of_row _ _ _ _ _ _ HF73.out]; rfl
            have hc78 : (W6.setCell ⟨w2.heap.size, 1, none⟩ (.int .i64 b)).cell? ⟨w2.heap.size, 0, none⟩ = some (.int .i64 a) := by rw [cell_of_row _ _ _ _ _ _ HF72.out]; rfl
            have hc79 : (W6.setCell ⟨w2.heap.size, 1, none⟩ (.int .i64 b)).cell? ⟨w2.heap.size, 1, none⟩ = some (.int .i64 b) := by rw [cell_of_row _ _ _ _ _ _ HF72.out]; rfl
            have hc80 : (W6.setCell ⟨w2.heap.size, 1, none⟩ (.int .i64 b)).cell? ⟨w2.heap.size, 2, none⟩ = some (.int .i64 0) := by rw [cell_of_row _ _ _ _ _ _ HF72.out]; rfl
            have hc81 : (W6.setCell ⟨w2.heap.size, 1, none⟩ (.int .i64 b)).cell? ⟨w2.heap.size, 3, none⟩ = some (.string ⟨#[]⟩) := by rw [cell_of_row _ _ _ _ _ _ HF72.out]; rfl
            have hc82 : (W6.setCell ⟨w2.heap.size, 1, none⟩ (.int .i64 b)).cell? ⟨w2.heap.size, 4, none⟩ = some (.string ⟨#[]⟩) := by rw [cell_of_row _ _ _ _ _ _ HF72.out]; rfl
            have hc83 : (W6.setCell ⟨w2.heap.size, 1, none⟩ (.int .i64 b)).cell? ⟨w2.heap.size, 5, none⟩ = some (.string ⟨#[]⟩) := by rw [cell_of_row _ _ _ _ _ _ HF72.out]; rfl
            have hc84 : (W6.setCell ⟨w2.heap.size, 1, none⟩ (.int .i64 b)).cell? ⟨w2.heap.size, 6, none⟩ = some (.int .i64 0) := by rw [cell_of_row _ _ _ _ _ _ HF72.out]; rfl
            have hc85 : (W6.setCell ⟨w2.heap.size, 1, none⟩ (.int .i64 b)).cell? ⟨w2.heap.size, 7, none⟩ = some (.int .i64 0) := by rw [cell_of_row _ _ _ _ _ _ HF72.out]; rfl
            go_wp2_with fail
            refine (H3.out (W6.setCell ⟨w2.heap.size, 1, none⟩ (.int .i64 b))).mono ?_
            rintro e w7 ⟨rfl, hb7⟩
            clear hc59 hc60 hc61 hc62 hc63 hc64 hc65 hc66 hc67 hc68 hc69 hz70 hc75 hc76 hc77 hc78 hc79 hc80 hc81 hc82 hc83 hc84 hc85
            have HF86 := Lib.hid (blk_below HF71.out hb7)
            have HF87 := Lib.hid (blk_below HF72.out hb7)
            have HF88 := Lib.hid (blk_below HF73.out hb7)
            have HB89 := Lib.hid (HB74.out.trans (hb7.mono HB74.out.size))
            clear hb7 HB74 HF71 HF72 HF73
            go_wp2_with (first
              | refine wpList_store_rowY rfl 70 (.tmp 8) (.tmp 48) rfl (w2.heap.size + 1) #[.string Y, .int .i64 (q3 : Int), .int .i64 e3] rfl rfl 70 _ HF88.out (info_scE _ _ _) rfl (one_scE _ _ _) w.heap.size w HB89.out (by omega) ?_)
            intro W8 hbk hoth hbel _
            have HF90 := Lib.hid (blk_oth HF86.out hoth.out (by omega))
            have HF91 := Lib.hid (blk_oth HF87.out hoth.out (by omega))
            have HF92 := Lib.hid hbk.out
            have HB93 := Lib.hid hbel.out
            clear hbk hoth hbel HB89  HF86 HF87 HF88
            have hc94 : W8.cell? ⟨w2.heap.size, 0, none⟩ = some (.int .i64 a) := by rw [cell_of_row _ _ _ _ _ _ HF91.out]; rfl
            have hc95 : W8.cell? ⟨w2.heap.size, 1, none⟩ = some (.int .i64 b) := by rw [cell_of_row _ _ _ _ _ _ HF91.out]; rfl
            have hc96 : W8.cell? ⟨w2.heap.size, 2, none⟩ = some (.int .i64 0) := by rw [cell_of_row _ _ _ _ _ _ HF91.out]; rfl
            have hc97 : W8.cell? ⟨w2.heap.size, 3, none⟩ = some (.string ⟨#[]⟩) := by rw [cell_of_row _ _ _ _ _ _ HF91.out]; rfl
            have hc98 : W8.cell? ⟨w2.heap.size, 4, none⟩ = some (.string ⟨#[]⟩) := by rw [cell_of_row _ _ _ _ _ _ HF91.out]; rfl
            have hc99 : W8.cell? ⟨w2.heap.size, 5, none⟩ = some (.string ⟨#[]⟩) := by rw [cell_of_row _ _ _ _ _ _ HF91.out]; rfl
            have hc100 : W8.cell? ⟨w2.heap.size, 6, none⟩ = some (.int .i64 0) := by rw [cell_of_row _ _ _ _ _ _ HF91.out]; rfl
            have hc101 : W8.cell? ⟨w2.heap.size, 7, none⟩ = some (.int .i64 0) := by rw [cell_of_row _ _ _ _ _ _ HF91.out]; rfl
            have hc102 : W8.cell? ⟨w2.heap.size + 1, 0, none⟩ = some (.string Y) := by rw [cell_of_row _ _ _ _ _ _ HF92.out]; rfl
            have hc103 : W8.cell? ⟨w2.heap.size + 1, 1, none⟩ = some (.int .i64 (q3 : Int)) := by rw [cell_of_row _ _ _ _ _ _ HF92.out]; rfl
            have hc104 : W8.cell? ⟨w2.heap.size + 1, 2, none⟩ = some (.int .i64 e3) := by rw [cell_of_row _ _ _ _ _ _ HF92.out]; rfl
            have hz105 : W8.frozen? ⟨w2.heap.size, 2, none⟩ = false := frozen_of_row _ _ _ _ _ HF91.out
            have HF106 := Lib.hid (show (W8.setCell ⟨w2.heap.size, 2, none⟩ (.int .i64 k)).heap[w.heap.size]? = some (.cells #[.int .i64 0, .int .i64 0, .int .i64 0, .string ⟨#[]⟩, .string ⟨#[]⟩, .string ⟨#[]⟩, .int .i64 0, .int .i64 0] 37 (0, 0)) by rw [Below.heap_setCell _ _ _ _ (by show w.heap.size ≠ w2.heap.size; omega)]; exact HF90.out)
            have HF107 := Lib.hid (show (W8.setCell ⟨w2.heap.size, 2, none⟩ (.int .i64 k)).heap[w2.heap.size]? = some (.cells #[.int .i64 a, .int .i64 b, .int .i64 k, .string ⟨#[]⟩, .string ⟨#[]⟩, .string ⟨#[]⟩, .int .i64 0, .int .i64 0] 37 (0, 0)) by have h := heap_setCell_at (i := 2) (u := .int .i64 k) HF91.out; exact h)
            have HF108 := Lib.hid (show (W8.setCell ⟨w2.heap.size, 2, none⟩ (.int .i64 k)).heap[w2.heap.size + 1]? = some (.cells #[.string Y, .int .i64 (q3 : Int), .int .i64 e3] 70 (0, 0)) by rw [Below.heap_setCell _ _ _ _ (by show w2.heap.size + 1 ≠ w2.heap.size; omega)]; exact HF92.out)
            have HB109 := Lib.hid (HB93.out.setCell (p := ⟨w2.heap.size, 2, none⟩) (by show w.heap.size ≤ w2.heap.size; omega) (.int .i64 k))
            have hc110 : (W8.setCell ⟨w2.heap.size, 2, none⟩ (.int .i64 k)).cell? ⟨w2.heap.size + 1, 0, none⟩ = some (.string Y) := by rw [cell_of_row _ _ _ _ _ _ HF108.out]; rfl
            have hc111 : (W8.setCell ⟨w2.heap.size, 2, none⟩ (.int .i64 k)).cell? ⟨w2.heap.size + 1, 1, none⟩ = some (.int .i64 (q3 : Int)) := by rw [cell_of_row _ _ _ _ _ _ HF108.out]; rfl
            have hc112 : (W8.setCell ⟨w2.heap.size, 2, none⟩ (.int .i64 k)).cell? ⟨w2.heap.size + 1, 2, none⟩ = some (.int .i64 e3) := by rw [cell_of_row _ _ _ _ _ _ HF108.out]; rfl
            have hc113 : (W8.setCell ⟨w2.heap.size, 2, none⟩ (.int .i64 k)).cell? ⟨w2.heap.size, 0, none⟩ = some (.int .i64 a) := by rw [cell_of_row _ _ _ _ _ _ HF107.out]; rfl
            have hc114 : (W8.setCell ⟨w2.heap.size, 2, none⟩ (.int .i64 k)).cell? ⟨w2.heap.size, 1, none⟩ = some (.int .i64 b) := by rw [cell_of_row _ _ _ _ _ _ HF107.out]; rfl
            have hc115 : (W8.setCell ⟨w2.heap.size, 2, none⟩ (.int .i64 k)).cell? ⟨w2.heap.size, 2, none⟩ = some (.int .i64 k) := by rw [cell_of_row _ _ _ _ _ _ HF107.out]; rfl
            have hc116 : (W8.setCell ⟨w2.heap.size, 2, none⟩ (.int .i64 k)).cell? ⟨w2.heap.size, 3, none⟩ = some (.string ⟨#[]⟩) := by rw [cell_of_row _ _ _ _ _ _ HF107.out]; rfl
            have hc117 : (W8.setCell ⟨w2.heap.size, 2, none⟩ (.int .i64 k)).cell? ⟨w2.heap.size, 4, none⟩ = some (.string ⟨#[]⟩) := by rw [cell_of_row _ _ _ _ _ _ HF107.out]; rfl
            have hc118 : (W8.setCell ⟨w2.heap.size, 2, none⟩ (.int .i64 k)).cell? ⟨w2.heap.size, 5, none⟩ = some (.string ⟨#[]⟩) := by rw [cell_of_row _ _ _ _ _ _ HF107.out]; rfl
            have hc119 : (W8.setCell ⟨w2.heap.size, 2, none⟩ (.int .i64 k)).cell? ⟨w2.heap.size, 6, none⟩ = some (.int .i64 0) := by rw [cell_of_row _ _ _ _ _ _ HF107.out]; rfl
            have hc120 : (W8.setCell ⟨w2.heap.size, 2, none⟩ (.int .i64 k)).cell? ⟨w2.heap.size, 7, none⟩ = some (.int .i64 0) := by rw [cell_of_row _ _ _ _ _ _ HF107.out]; rfl
            go_wp2_with fail
            refine (H4.out (W8.setCell ⟨w2.heap.size, 2, none⟩ (.int .i64 k))).mono ?_
            rintro e w9 ⟨rfl, hb9⟩
            clear hc94 hc95 hc96 hc97 hc98 hc99 hc100 hc101 hc102 hc103 hc104 hz105 hc110 hc111 hc112 hc113 hc114 hc115 hc116 hc117 hc118 hc119 hc120
            have HF121 := Lib.hid (blk_below HF106.out hb9)
            have HF122 := Lib.hid (blk_below HF107.out hb9)
            have HF123 := Lib.hid (blk_below HF108.out hb9)
            have HB124 := Lib.hid (HB109.out.trans (hb9.mono HB109.out.size))
            clear hb9 HB109 HF106 HF107 HF108
            go_wp2_with (first
              | refine wpList_store_rowY rfl 70 (.tmp 8) (.tmp 54) rfl (w2.heap.size + 1) #[.string Y, .int .i64 (q4 : Int), .int .i64 e4] rfl rfl 70 _ HF123.out (info_scE _ _ _) rfl (one_scE _ _ _) w.heap.size w HB124.out (by omega) ?_)
            intro W10 hbk hoth hbel _
            have HF125 := Lib.hid (blk_oth HF121.out hoth.out (by omega))
            have HF126 := Lib.hid (blk_oth HF122.out hoth.out (by omega))
            have HF127 := Lib.hid hbk.out
            have HB128 := Lib.hid hbel.out
            clear hbk hoth hbel HB124  HF121 HF122 HF123
            have hc129 : W10.cell? ⟨w2.heap.size, 0, none⟩ = some (.int .i64 a) := by rw [cell_of_row _ _ _ _ _ _ HF126.out]; rfl
            have hc130 : W10.cell? ⟨w2.heap.size, 1, none⟩ = some (.int .i64 b) := by rw [cell_of_row _ _ _ _ _ _ HF126.out]; rfl
            have hc131 : W10.cell? ⟨w2.heap.size, 2, none⟩ = some (.int .i64 k) := by rw [cell_of_row _ _ _ _ _ _ HF126.out]; rfl
            have hc132 : W10.cell? ⟨w2.heap.size, 3, none⟩ = some (.string ⟨#[]⟩) := by rw [cell_of_row _ _ _ _ _ _ HF126.out]; rfl
            have hc133 : W10.cell? ⟨w2.heap.size, 4, none⟩ = some (.string ⟨#[]⟩) := by rw [cell_of_row _ _ _ _ _ _ HF126.out]; rfl
            have hc134 : W10.cell? ⟨w2.heap.size, 5, none⟩ = some (.string ⟨#[]⟩) := by rw [cell_of_row _ _ _ _ _ _ HF126.out]; rfl
            have hc135 : W10.cell? ⟨w2.heap.size, 6, none⟩ = some (.int .i64 0) := by rw [cell_of_row _ _ _ _ _ _ HF126.out]; rfl
            have hc136 : W10.cell? ⟨w2.heap.size, 7, none⟩ = some (.int .i64 0) := by rw [cell_of_row _ _ _ _ _ _ HF126.out]; rfl
            have hc137 : W10.cell? ⟨w2.heap.size + 1, 0, none⟩ = some (.string Y) := by rw [cell_of_row _ _ _ _ _ _ HF127.out]; rfl
            have hc138 : W10.cell? ⟨w2.heap.size + 1, 1, none⟩ = some (.int .i64 (q4 : Int)) := by rw [cell_of_row _ _ _ _ _ _ HF127.out]; rfl
            have hc139 : W10.cell? ⟨w2.heap.size + 1, 2, none⟩ = some (.int .i64 e4) := by rw [cell_of_row _ _ _ _ _ _ HF127.out]; rfl
            have hz140 : W10.frozen? ⟨w2.heap.size, 3, none⟩ = false := frozen_of_row _ _ _ _ _ HF126.out
            have HF141 := Lib.hid (show (W10.setCell ⟨w2.heap.size, 3, none⟩ (.string x)).heap[w.heap.size]? = some (.cells #[.int .i64 0, .int .i64 0, .int .i64 0, .string ⟨#[]⟩, .string ⟨#[]⟩, .string ⟨#[]⟩, .int .i64 0, .int .i64 0] 37 (0, 0)) by rw [Below.heap_setCell _ _ _ _ (by show w.heap.size ≠ w2.heap.size; omega)]; exact HF125.out)
            have HF142 := Lib.hid (show (W10.setCell ⟨w2.heap.size, 3, none⟩ (.string x)).heap[w2.heap.size]? = some (.cells #[.int .i64 a, .int .i64 b, .int .i64 k, .string x, .string ⟨#[]⟩, .string ⟨#[]⟩, .int .i64 0, .int .i64 0] 37 (0, 0)) by have h := heap_setCell_at (i := 3) (u := .string x) HF126.out; exact h)
            have HF143 := Lib.hid (show (W10.setCell ⟨w2.heap.size, 3, none⟩ (.string x)).heap[w2.heap.size + 1]? = some (.cells #[.string Y, .int .i64 (q4 : Int), .int .i64 e4] 70 (0, 0)) by rw [Below.heap_setCell _ _ _ _ (by show w2.heap.size + 1 ≠ w2.heap.size; omega)]; exact HF127.out)
            have HB144 := Lib.hid (HB128.out.setCell (p := ⟨w2.heap.size, 3, none⟩) (by show w.heap.size ≤ w2.heap.size; omega) (.string x))
            have hc145 : (W10.setCell ⟨w2.heap.size, 3, none⟩ (.string x)).cell? ⟨w2.heap.size + 1, 0, none⟩ = some (.string Y) := by rw [cell_of_row _ _ _ _ _ _ HF143.out]; rfl
            have hc146 : (W10.setCell ⟨w2.heap.size, 3, none⟩ (.string x)).cell? ⟨w2.heap.size + 1, 1, none⟩ = some (.int .i64 (q4 : Int)) := by rw [cell_of_row _ _ _ _ _ _ HF143.out]; rfl
            have hc147 : (W10.setCell ⟨w2.heap.size, 3, none⟩ (.string x)).cell? ⟨w2.heap.size + 1, 2, none⟩ = some (.int .i64 e4) := by rw [cell_of_row _ _ _ _ _ _ HF143.out]; rfl
            have hc148 : (W10.setCell ⟨w2.heap.size, 3, none⟩ (.string x)).cell? ⟨w2.heap.size, 0, none⟩ = some (.int .i64 a) := by rw [cell_of_row _ _ _ _ _ _ HF142.out]; rfl
            have hc149 : (W10.setCell ⟨w2.heap.size, 3, none⟩ (.string x)).cell? ⟨w2.heap.size, 1, none⟩ = some (.int .i64 b) := by rw [cell_of_row _ _ _ _ _ _ HF142.out]; rfl
            have hc150 : (W10.setCell ⟨w2.heap.size, 3, none⟩ (.string x)).cell? ⟨w2.heap.size, 2, none⟩ = some (.int .i64 k) := by rw [cell_of_row _ _ _ _ _ _ HF142.out]; rfl
            have hc151 : (W10.setCell ⟨w2.heap.size, 3, none⟩ (.string x)).cell? ⟨w2.heap.size, 3, none⟩ = some (.string x) := by rw [cell_of_row _ _ _ _ _ _ HF142.out]; rfl
            have hc152 : (W10.setCell ⟨w2.heap.size, 3, none⟩ (.string x)).cell? ⟨w2.heap.size, 4, none⟩ = some (.string ⟨#[]⟩) := by rw [cell_of_row _ _ _ _ _ _ HF142.out]; rfl
            have hc153 : (W10.setCell ⟨w2.heap.size, 3, none⟩ (.string x)).cell? ⟨w2.heap.size, 5, none⟩ = some (.string ⟨#[]⟩) := by rw [cell_of_row _ _ _ _ _ _ HF142.out]; rfl
            have hc154 : (W10.setCell ⟨w2.heap.size, 3, none⟩ (.string x)).cell? ⟨w2.heap.size, 6, none⟩ = some (.int .i64 0) := by rw [cell_of_row _ _ _ _ _ _ HF142.out]; rfl
            have hc155 : (W10.setCell ⟨w2.heap.size, 3, none⟩ (.string x)).cell? ⟨w2.heap.size, 7, none⟩ = some (.int .i64 0) := by rw [cell_of_row _ _ _ _ _ _ HF142.out]; rfl
            go_wp2_with fail
            refine (H5.out (W10.setCell ⟨w2.heap.size, 3, none⟩ (.string x))).mono ?_
            rintro e w11 ⟨rfl, hb11⟩
            clear hc129 hc130 hc131 hc132 hc133 hc134 hc135 hc136 hc137 hc138 hc139 hz140 hc145 hc146 hc147 hc148 hc149 hc150 hc151 hc152 hc153 hc154 hc155
            have HF156 := Lib.hid (blk_below HF141.out hb11)
            have HF157 := Lib.hid (blk_below HF142.out hb11)
            have HF158 := Lib.hid (blk_below HF143.out hb11)
            have HB159 := Lib.hid (HB144.out.trans (hb11.mono HB144.out.size))
            clear hb11 HB144 HF141 HF142 HF143
            go_wp2_with (first
              | refine wpList_store_rowY rfl 70 (.tmp 8) (.tmp 60) rfl (w2.heap.size + 1) #[.string Y, .int .i64 (q5 : Int), .int .i64 e5] rfl rfl 70 _ HF158.out (info_scE _ _ _) rfl (one_scE _ _ _) w.heap.size w HB159.out (by omega) ?_)
            intro W12 hbk hoth hbel _
            have HF160 := Lib.hid (blk_oth HF156.out hoth.out (by omega))
            have HF161 := Lib.hid (blk_oth HF157.out hoth.out (by omega))
            have HF162 := Lib.hid hbk.out
            have HB163 := Lib.hid hbel.out
            clear hbk hoth hbel HB159  HF156 HF157 HF158
            have hc164 : W12.cell? ⟨w2.heap.size, 0, none⟩ = some (.int .i64 a) := by rw [cell_of_row _ _ _ _ _ _ HF161.out]; rfl
            have hc165 : W12.cell? ⟨w2.heap.size, 1, none⟩ = some (.int .i64 b) := by rw [cell_of_row _ _ _ _ _ _ HF161.out]; rfl
            have hc166 : W12.cell? ⟨w2.heap.size, 2, none⟩ = some (.int .i64 k) := by rw [cell_of_row _ _ _ _ _ _ HF161.out]; rfl
            have hc167 : W12.cell? ⟨w2.heap.size, 3, none⟩ = some (.string x) := by rw [cell_of_row _ _ _ _ _ _ HF161.out]; rfl
            have hc168 : W12.cell? ⟨w2.heap.size, 4, none⟩ = some (.string ⟨#[]⟩) := by rw [cell_of_row _ _ _ _ _ _ HF161.out]; rfl
            have hc169 : W12.cell? ⟨w2.heap.size, 5, none⟩ = some (.string ⟨#[]⟩) := by rw [cell_of_row _ _ _ _ _ _ HF161.out]; rfl
            have hc170 : W12.cell? ⟨w2.heap.size, 6, none⟩ = some (.int .i64 0) := by rw [cell_of_row _ _ _ _ _ _ HF161.out]; rfl
            have hc171 : W12.cell? ⟨w2.heap.size, 7, none⟩ = some (.int .i64 0) := by rw [cell_of_row _ _ _ _ _ _ HF161.out]; rfl
            have hc172 : W12.cell? ⟨w2.heap.size + 1, 0, none⟩ = some (.string Y) := by rw [cell_of_row _ _ _ _ _ _ HF162.out]; rfl
            have hc173 : W12.cell? ⟨w2.heap.size + 1, 1, none⟩ = some (.int .i64 (q5 : Int)) := by rw [cell_of_row _ _ _ _ _ _ HF162.out]; rfl
            have hc174 : W12.cell? ⟨w2.heap.size + 1, 2, none⟩ = some (.int .i64 e5) := by rw [cell_of_row _ _ _ _ _ _ HF162.out]; rfl
            have hz175 : W12.frozen? ⟨w2.heap.size, 4, none⟩ = false := frozen_of_row _ _ _ _ _ HF161.out
            have HF176 := Lib.hid (show (W12.setCell ⟨w2.heap.size, 4, none⟩ (.string o)).heap[w.heap.size]? = some (.cells #[.int .i64 0, .int .i64 0, .int .i64 0, .string ⟨#[]⟩, .string ⟨#[]⟩, .string ⟨#[]⟩, .int .i64 0, .int .i64 0] 37 (0, 0)) by rw [Below.heap_setCell _ _ _ _ (by show w.heap.size ≠ w2.heap.size; omega)]; exact HF160.out)
            have HF177 := Lib.hid (show (W12.setCell ⟨w2.heap.size, 4, none⟩ (.string o)).heap[w2.heap.size]? = some (.cells #[.int .i64 a, .int .i64 b, .int .i64 k, .string x, .string o, .string ⟨#[]⟩, .int .i64 0, .int .i64 0] 37 (0, 0)) by have h := heap_setCell_at (i := 4) (u := .string o) HF161.out; exact h)
            have HF178 := Lib.hid (show (W12.setCell ⟨w2.heap.size, 4, none⟩ (.string o)).heap[w2.heap.size + 1]? = some (.cells #[.string Y, .int .i64 (q5 : Int), .int .i64 e5] 70 (0, 0)) by rw [Below.heap_setCell _ _ _ _ (by show w2.heap.size + 1 ≠ w2.heap.size; omega)]; exact HF162.out)
            have HB179 := Lib.hid (HB163.out.setCell (p := ⟨w2.heap.size, 4, none⟩) (by show w.heap.size ≤ w2.heap.size; omega) (.string o))
            have hc180 : (W12.setCell ⟨w2.heap.size, 4, none⟩ (.string o)).cell? ⟨w2.heap.size + 1, 0, none⟩ = some (.string Y) := by rw [cell_of_row _ _ _ _ _ _ HF178.out]; rfl
            have hc181 : (W12.setCell ⟨w2.heap.size, 4, none⟩ (.string o)).cell? ⟨w2.heap.size + 1, 1, none⟩ = some (.int .i64 (q5 : Int)) := by rw [cell_of_row _ _ _ _ _ _ HF178.out]; rfl
            have hc182 : (W12.setCell ⟨w2.heap.size, 4, none⟩ (.string o)).cell? ⟨w2.heap.size + 1, 2, none⟩ = some (.int .i64 e5) := by rw [cell_of_row _ _ _ _ _ _ HF178.out]; rfl
            have hc183 : (W12.setCell ⟨w2.heap.size, 4, none⟩ (.string o)).cell? ⟨w2.heap.size, 0, none⟩ = some (.int .i64 a) := by rw [cell_of_row _ _ _ _ _ _ HF177.out]; rfl
            have hc184 : (W12.setCell ⟨w2.heap.size, 4, none⟩ (.string o)).cell? ⟨w2.heap.size, 1, none⟩ = some (.int .i64 b) := by rw [cell_of_row _ _ _ _ _ _ HF177.out]; rfl
            have hc185 : (W12.setCell ⟨w2.heap.size, 4, none⟩ (.string o)).cell? ⟨w2.heap.size, 2, none⟩ = some (.int .i64 k) := by rw [cell_of_row _ _ _ _ _ _ HF177.out]; rfl
            have hc186 : (W12.setCell ⟨w2.heap.size, 4, none⟩ (.string o)).cell? ⟨w2.heap.size, 3, none⟩ = some (.string x) := by rw [cell_of_row _ _ _ _ _ _ HF177.out]; rfl
            have hc187 : (W12.setCell ⟨w2.heap.size, 4, none⟩ (.string o)).cell? ⟨w2.heap.size, 4, none⟩ = some (.string o) := by rw [cell_of_row _ _ _ _ _ _ HF177.out]; rfl
            have hc188 : (W12.setCell ⟨w2.heap.size, 4, none⟩ (.string o)).cell? ⟨w2.heap.size, 5, none⟩ = some (.string ⟨#[]⟩) := by rw [cell_of_row _ _ _ _ _ _ HF177.out]; rfl
            have hc189 : (W12.setCell ⟨w2.heap.size, 4, none⟩ (.string o)).cell? ⟨w2.heap.size, 6, none⟩ = some (.int .i64 0) := by rw [cell_of_row _ _ _ _ _ _ HF177.out]; rfl
            have hc190 : (W12.setCell ⟨w2.heap.size, 4, none⟩ (.string o)).cell? ⟨w2.heap.size, 7, none⟩ = some (.int .i64 0) := by rw [cell_of_row _ _ _ _ _ _ HF177.out]; rfl
            go_wp2_with fail
            refine (H6.out (W12.setCell ⟨w2.heap.size, 4, none⟩ (.string o))).mono ?_
            rintro e w13 ⟨rfl, hb13⟩
            clear hc164 hc165 hc166 hc167 hc168 hc169 hc170 hc171 hc172 hc173 hc174 hz175 hc180 hc181 hc182 hc183 hc184 hc185 hc186 hc187 hc188 hc189 hc190
            have HF191 := Lib.hid (blk_below HF176.out hb13)
            have HF192 := Lib.hid (blk_below HF177.out hb13)
            have HF193 := Lib.hid (blk_below HF178.out hb13)
            have HB194 := Lib.hid (HB179.out.trans (hb13.mono HB179.out.size))
            clear hb13 HB179 HF176 HF177 HF178
            go_wp2_with (first
              | refine wpList_store_rowY rfl 70 (.tmp 8) (.tmp 66) rfl (w2.heap.size + 1) #[.string Y, .int .i64 (q6 : Int), .int .i64 e6] rfl rfl 70 _ HF193.out (info_scE _ _ _) rfl (one_scE _ _ _) w.heap.size w HB194.out (by omega) ?_)
            intro W14 hbk hoth hbel _
            have HF195 := Lib.hid (blk_oth HF191.out hoth.out (by omega))
            have HF196 := Lib.hid (blk_oth HF192.out hoth.out (by omega))
            have HF197 := Lib.hid hbk.out
            have HB198 := Lib.hid hbel.out
            clear hbk hoth hbel HB194  HF191 HF192 HF193
            have hc199 : W14.cell? ⟨w2.heap.size, 0, none⟩ = some (.int .i64 a) := by rw [cell_of_row _ _ _ _ _ _ HF196.out]; rfl
            have hc200 : W14.cell? ⟨w2.heap.size, 1, none⟩ = some (.int .i64 b) := by rw [cell_of_row _ _ _ _ _ _ HF196.out]; rfl
            have hc201 : W14.cell? ⟨w2.heap.size, 2, none⟩ = some (.int .i64 k) := by rw [cell_of_row _ _ _ _ _ _ HF196.out]; rfl
            have hc202 : W14.cell? ⟨w2.heap.size, 3, none⟩ = some (.string x) := by rw [cell_of_row _ _ _ _ _ _ HF196.out]; rfl
            have hc203 : W14.cell? ⟨w2.heap.size, 4, none⟩ = some (.string o) := by rw [cell_of_row _ _ _ _ _ _ HF196.out]; rfl
            have hc204 : W14.cell? ⟨w2.heap.size, 5, none⟩ = some (.string ⟨#[]⟩) := by rw [cell_of_row _ _ _ _ _ _ HF196.out]; rfl
            have hc205 : W14.cell? ⟨w2.heap.size, 6, none⟩ = some (.int .i64 0) := by rw [cell_of_row _ _ _ _ _ _ HF196.out]; rfl
            have hc206 : W14.cell? ⟨w2.heap.size, 7, none⟩ = some (.int .i64 0) := by rw [cell_of_row _ _ _ _ _ _ HF196.out]; rfl
            have hc207 : W14.cell? ⟨w2.heap.size + 1, 0, none⟩ = some (.string Y) := by rw [cell_of_row _ _ _ _ _ _ HF197.out]; rfl
            have hc208 : W14.cell? ⟨w2.heap.size + 1, 1, none⟩ = some (.int .i64 (q6 : Int)) := by rw [cell_of_row _ _ _ _ _ _ HF197.out]; rfl
            have hc209 : W14.cell? ⟨w2.heap.size + 1, 2, none⟩ = some (.int .i64 e6) := by rw [cell_of_row _ _ _ _ _ _ HF197.out]; rfl
            have hz210 : W14.frozen? ⟨w2.heap.size, 5, none⟩ = false := frozen_of_row _ _ _ _ _ HF196.out
            have HF211 := Lib.hid (show (W14.setCell ⟨w2.heap.size, 5, none⟩ (.string n)).heap[w.heap.size]? = some (.cells #[.int .i64 0, .int .i64 0, .int .i64 0, .string ⟨#[]⟩, .string ⟨#[]⟩, .string ⟨#[]⟩, .int .i64 0, .int .i64 0] 37 (0, 0)) by rw [Below.heap_setCell _ _ _ _ (by show w.heap.size ≠ w2.heap.size; omega)]; exact HF195.out)
            have HF212 := Lib.hid (show (W14.setCell ⟨w2.heap.size, 5, none⟩ (.string n)).heap[w2.heap.size]? = some (.cells #[.int .i64 a, .int .i64 b, .int .i64 k, .string x, .string o, .string n, .int .i64 0, .int .i64 0] 37 (0, 0)) by have h := heap_setCell_at (i := 5) (u := .string n) HF196.out; exact h)
            have HF213 := Lib.hid (show (W14.setCell ⟨w2.heap.size, 5, none⟩ (.string n)).heap[w2.heap.size + 1]? = some (.cells #[.string Y, .int .i64 (q6 : Int), .int .i64 e6] 70 (0, 0)) by rw [Below.heap_setCell _ _ _ _ (by show w2.heap.size + 1 ≠ w2.heap.size; omega)]; exact HF197.out)
            have HB214 := Lib.hid (HB198.out.setCell (p := ⟨w2.heap.size, 5, none⟩) (by show w.heap.size ≤ w2.heap.size; omega) (.string n))
            have hc215 : (W14.setCell ⟨w2.heap.size, 5, none⟩ (.string n)).cell? ⟨w2.heap.size + 1, 0, none⟩ = some (.string Y) := by rw [cell_of_row _ _ _ _ _ _ HF213.out]; rfl
            have hc216 : (W14.setCell ⟨w2.heap.size, 5, none⟩ (.string n)).cell? ⟨w2.heap.size + 1, 1, none⟩ = some (.int .i64 (q6 : Int)) := by rw [cell_of_row _ _ _ _ _ _ HF213.out]; rfl
            have hc217 : (W14.setCell ⟨w2.heap.size, 5, none⟩ (.string n)).cell? ⟨w2.heap.size + 1, 2, none⟩ = some (.int .i64 e6) := by rw [cell_of_row _ _ _ _ _ _ HF213.out]; rfl
            have hc218 : (W14.setCell ⟨w2.heap.size, 5, none⟩ (.string n)).cell? ⟨w2.heap.size, 0, none⟩ = some (.int .i64 a) := by rw [cell_of_row _ _ _ _ _ _ HF212.out]; rfl
            have hc219 : (W14.setCell ⟨w2.heap.size, 5, none⟩ (.string n)).cell? ⟨w2.heap.size, 1, none⟩ = some (.int .i64 b) := by rw [cell_of_row _ _ _ _ _ _ HF212.out]; rfl
            have hc220 : (W14.setCell ⟨w2.heap.size, 5, none⟩ (.string n)).cell? ⟨w2.heap.size, 2, none⟩ = some (.int .i64 k) := by rw [cell_of_row _ _ _ _ _ _ HF212.out]; rfl
            have hc221 : (W14.setCell ⟨w2.heap.size, 5, none⟩ (.string n)).cell? ⟨w2.heap.size, 3, none⟩ = some (.string x) := by rw [cell_of_row _ _ _ _ _ _ HF212.out]; rfl
            have hc222 : (W14.setCell ⟨w2.heap.size, 5, none⟩ (.string n)).cell? ⟨w2.heap.size, 4, none⟩ = some (.string o) := by rw [cell_of_row _ _ _ _ _ _ HF212.out]; rfl
            have hc223 : (W14.setCell ⟨w2.heap.size, 5, none⟩ (.string n)).cell? ⟨w2.heap.size, 5, none⟩ = some (.string n) := by rw [cell_of_row _ _ _ _ _ _ HF212.out]; rfl
            have hc224 : (W14.setCell ⟨w2.heap.size, 5, none⟩ (.string n)).cell? ⟨w2.heap.size, 6, none⟩ = some (.int .i64 0) := by rw [cell_of_row _ _ _ _ _ _ HF212.out]; rfl
            have hc225 : (W14.setCell ⟨w2.heap.size, 5, none⟩ (.string n)).cell? ⟨w2.heap.size, 7, none⟩ = some (.int .i64 0) := by rw [cell_of_row _ _ _ _ _ _ HF212.out]; rfl
            go_wp2_with fail
            refine (H7.out (W14.setCell ⟨w2.heap.size, 5, none⟩ (.string n))).mono ?_
            rintro e w15 ⟨rfl, hb15⟩
            clear hc199 hc200 hc201 hc202 hc203 hc204 hc205 hc206 hc207 hc208 hc209 hz210 hc215 hc216 hc217 hc218 hc219 hc220 hc221 hc222 hc223 hc224 hc225
            have HF226 := Lib.hid (blk_below HF211.out hb15)
            have HF227 := Lib.hid (blk_below HF212.out hb15)
            have HF228 := Lib.hid (blk_below HF213.out hb15)
            have HB229 := Lib.hid (HB214.out.trans (hb15.mono HB214.out.size))
            clear hb15 HB214 HF211 HF212 HF213
            go_wp2_with (first
              | refine wpList_store_rowY rfl 70 (.tmp 8) (.tmp 72) rfl (w2.heap.size + 1) #[.string Y, .int .i64 (q7 : Int), .int .i64 e7] rfl rfl 70 _ HF228.out (info_scE _ _ _) rfl (one_scE _ _ _) w.heap.size w HB229.out (by omega) ?_)
            intro W16 hbk hoth hbel _
            have HF230 := Lib.hid (blk_oth HF226.out hoth.out (by omega))
            have HF231 := Lib.hid (blk_oth HF227.out hoth.out (by omega))
            have HF232 := Lib.hid hbk.out
            have HB233 := Lib.hid hbel.out
            clear hbk hoth hbel HB229  HF226 HF227 HF228
            have hc234 : W16.cell? ⟨w2.heap.size, 0, none⟩ = some (.int .i64 a) := by rw [cell_of_row _ _ _ _ _ _ HF231.out]; rfl
            have hc235 : W16.cell? ⟨w2.heap.size, 1, none⟩ = some (.int .i64 b) := by rw [cell_of_row _ _ _ _ _ _ HF231.out]; rfl
            have hc236 : W16.cell? ⟨w2.heap.size, 2, none⟩ = some (.int .i64 k) := by rw [cell_of_row _ _ _ _ _ _ HF231.out]; rfl
            have hc237 : W16.cell? ⟨w2.heap.size, 3, none⟩ = some (.string x) := by rw [cell_of_row _ _ _ _ _ _ HF231.out]; rfl
            have hc238 : W16.cell? ⟨w2.heap.size, 4, none⟩ = some (.string o) := by rw [cell_of_row _ _ _ _ _ _ HF231.out]; rfl
            have hc239 : W16.cell? ⟨w2.heap.size, 5, none⟩ = some (.string n) := by rw [cell_of_row _ _ _ _ _ _ HF231.out]; rfl
            have hc240 : W16.cell? ⟨w2.heap.size, 6, none⟩ = some (.int .i64 0) := by rw [cell_of_row _ _ _ _ _ _ HF231.out]; rfl
            have hc241 : W16.cell? ⟨w2.heap.size, 7, none⟩ = some (.int .i64 0) := by rw [cell_of_row _ _ _ _ _ _ HF231.out]; rfl
            have hc242 : W16.cell? ⟨w2.heap.size + 1, 0, none⟩ = some (.string Y) := by rw [cell_of_row _ _ _ _ _ _ HF232.out]; rfl
            have hc243 : W16.cell? ⟨w2.heap.size + 1, 1, none⟩ = some (.int .i64 (q7 : Int)) := by rw [cell_of_row _ _ _ _ _ _ HF232.out]; rfl
            have hc244 : W16.cell? ⟨w2.heap.size + 1, 2, none⟩ = some (.int .i64 e7) := by rw [cell_of_row _ _ _ _ _ _ HF232.out]; rfl
            have hz245 : W16.frozen? ⟨w2.heap.size, 6, none⟩ = false := frozen_of_row _ _ _ _ _ HF231.out
            have HF246 := Lib.hid (show (W16.setCell ⟨w2.heap.size, 6, none⟩ (.int .i64 t)).heap[w.heap.size]? = some (.cells #[.int .i64 0, .int .i64 0, .int .i64 0, .string ⟨#[]⟩, .string ⟨#[]⟩, .string ⟨#[]⟩, .int .i64 0, .int .i64 0] 37 (0, 0)) by rw [Below.heap_setCell _ _ _ _ (by show w.heap.size ≠ w2.heap.size; omega)]; exact HF230.out)
            have HF247 := Lib.hid (show (W16.setCell ⟨w2.heap.size, 6, none⟩ (.int .i64 t)).heap[w2.heap.size]? = some (.cells #[.int .i64 a, .int .i64 b, .int .i64 k, .string x, .string o, .string n, .int .i64 t, .int .i64 0] 37 (0, 0)) by have h := heap_setCell_at (i := 6) (u := .int .i64 t) HF231.out; exact h)
            have HF248 := Lib.hid (show (W16.setCell ⟨w2.heap.size, 6, none⟩ (.int .i64 t)).heap[w2.heap.size + 1]? = some (.cells #[.string Y, .int .i64 (q7 : Int), .int .i64 e7] 70 (0, 0)) by rw [Below.heap_setCell _ _ _ _ (by show w2.heap.size + 1 ≠ w2.heap.size; omega)]; exact HF232.out)
            have HB249 := Lib.hid (HB233.out.setCell (p := ⟨w2.heap.size, 6, none⟩) (by show w.heap.size ≤ w2.heap.size; omega) (.int .i64 t))
            have hc250 : (W16.setCell ⟨w2.heap.size, 6, none⟩ (.int .i64 t)).cell? ⟨w2.heap.size + 1, 0, none⟩ = some (.string Y) := by rw [cell_of_row _ _ _ _ _ _ HF248.out]; rfl
            have hc251 : (W16.setCell ⟨w2.heap.size, 6, none⟩ (.int .i64 t)).cell? ⟨w2.heap.size + 1, 1, none⟩ = some (.int .i64 (q7 : Int)) := by rw [cell_of_row _ _ _ _ _ _ HF248.out]; rfl
            have hc252 : (W16.setCell ⟨w2.heap.size, 6, none⟩ (.int .i64 t)).cell? ⟨w2.heap.size + 1, 2, none⟩ = some (.int .i64 e7) := by rw [cell_of_row _ _ _ _ _ _ HF248.out]; rfl
            have hc253 : (W16.setCell ⟨w2.heap.size, 6, none⟩ (.int .i64 t)).cell? ⟨w2.heap.size, 0, none⟩ = some (.int .i64 a) := by rw [cell_of_row _ _ _ _ _ _ HF247.out]; rfl
            have hc254 : (W16.setCell ⟨w2.heap.size, 6, none⟩ (.int .i64 t)).cell? ⟨w2.heap.size, 1, none⟩ = some (.int .i64 b) := by rw [cell_of_row _ _ _ _ _ _ HF247.out]; rfl
            have hc255 : (W16.setCell ⟨w2.heap.size, 6, none⟩ (.int .i64 t)).cell? ⟨w2.heap.size, 2, none⟩ = some (.int .i64 k) := by rw [cell_of_row _ _ _ _ _ _ HF247.out]; rfl
            have hc256 : (W16.setCell ⟨w2.heap.size, 6, none⟩ (.int .i64 t)).cell? ⟨w2.heap.size, 3, none⟩ = some (.string x) := by rw [cell_of_row _ _ _ _ _ _ HF247.out]; rfl
            have hc257 : (W16.setCell ⟨w2.heap.size, 6, none⟩ (.int .i64 t)).cell? ⟨w2.heap.size, 4, none⟩ = some (.string o) := by rw [cell_of_row _ _ _ _ _ _ HF247.out]; rfl
            have hc258 : (W16.setCell ⟨w2.heap.size, 6, none⟩ (.int .i64 t)).cell? ⟨w2.heap.size, 5, none⟩ = some (.string n) := by rw [cell_of_row _ _ _ _ _ _ HF247.out]; rfl
            have hc259 : (W16.setCell ⟨w2.heap.size, 6, none⟩ (.int .i64 t)).cell? ⟨w2.heap.size, 6, none⟩ = some (.int .i64 t) := by rw [cell_of_row _ _ _ _ _ _ HF247.out]; rfl
            have hc260 : (W16.setCell ⟨w2.heap.size, 6, none⟩ (.int .i64 t)).cell? ⟨w2.heap.size, 7, none⟩ = some (.int .i64 0) := by rw [cell_of_row _ _ _ _ _ _ HF247.out]; rfl
            go_wp2_with fail
            refine (H8.out (W16.setCell ⟨w2.heap.size, 6, none⟩ (.int .i64 t))).mono ?_
            rintro e w17 ⟨rfl, hb17⟩
            clear hc234 hc235 hc236 hc237 hc238 hc239 hc240 hc241 hc242 hc243 hc244 hz245 hc250 hc251 hc252 hc253 hc254 hc255 hc256 hc257 hc258 hc259 hc260
            have HF261 := Lib.hid (blk_below HF246.out hb17)
            have HF262 := Lib.hid (blk_below HF247.out hb17)
            have HF263 := Lib.hid (blk_below HF248.out hb17)
            have HB264 := Lib.hid (HB249.out.trans (hb17.mono HB249.out.size))
            clear hb17 HB249 HF246 HF247 HF248
            go_wp2_with (first
              | refine wpList_store_rowY rfl 70 (.tmp 8) (.tmp 78) rfl (w2.heap.size + 1) #[.string Y, .int .i64 (q8 : Int), .int .i64 0] rfl rfl 70 _ HF263.out (info_scE _ _ _) rfl (one_scE _ _ _) w.heap.size w HB264.out (by omega) ?_)
            intro W18 hbk hoth hbel _
            have HF265 := Lib.hid (blk_oth HF261.out hoth.out (by omega))
            have HF266 := Lib.hid (blk_oth HF262.out hoth.out (by omega))
            have HF267 := Lib.hid hbk.out
            have HB268 := Lib.hid hbel.out
            clear hbk hoth hbel HB264  HF261 HF262 HF263
            have hc269 : W18.cell? ⟨w2.heap.size, 0, none⟩ = some (.int .i64 a) := by rw [cell_of_row _ _ _ _ _ _ HF266.out]; rfl
            have hc270 : W18.cell? ⟨w2.heap.size, 1, none⟩ = some (.int .i64 b) := by rw [cell_of_row _ _ _ _ _ _ HF266.out]; rfl
            have hc271 : W18.cell? ⟨w2.heap.size, 2, none⟩ = some (.int .i64 k) := by rw [cell_of_row _ _ _ _ _ _ HF266.out]; rfl
            have hc272 : W18.cell? ⟨w2.heap.size, 3, none⟩ = some (.string x) := by rw [cell_of_row _ _ _ _ _ _ HF266.out]; rfl
            have hc273 : W18.cell? ⟨w2.heap.size, 4, none⟩ = some (.string o) := by rw [cell_of_row _ _ _ _ _ _ HF266.out]; rfl
            have hc274 : W18.cell? ⟨w2.heap.size, 5, none⟩ = some (.string n) := by rw [cell_of_row _ _ _ _ _ _ HF266.out]; rfl
            have hc275 : W18.cell? ⟨w2.heap.size, 6, none⟩ = some (.int .i64 t) := by rw [cell_of_row _ _ _ _ _ _ HF266.out]; rfl
            have hc276 : W18.cell? ⟨w2.heap.size, 7, none⟩ = some (.int .i64 0) := by rw [cell_of_row _ _ _ _ _ _ HF266.out]; rfl
            have hc277 : W18.cell? ⟨w2.heap.size + 1, 0, none⟩ = some (.string Y) := by rw [cell_of_row _ _ _ _ _ _ HF267.out]; rfl
            have hc278 : W18.cell? ⟨w2.heap.size + 1, 1, none⟩ = some (.int .i64 (q8 : Int)) := by rw [cell_of_row _ _ _ _ _ _ HF267.out]; rfl
            have hc279 : W18.cell? ⟨w2.heap.size + 1, 2, none⟩ = some (.int .i64 0) := by rw [cell_of_row _ _ _ _ _ _ HF267.out]; rfl
            have hz280 : W18.frozen? ⟨w2.heap.size, 7, none⟩ = false := frozen_of_row _ _ _ _ _ HF266.out
            have HF281 := Lib.hid (show (W18.setCell ⟨w2.heap.size, 7, none⟩ (.int .i64 u)).heap[w.heap.size]? = some (.cells #[.int .i64 0, .int .i64 0, .int .i64 0, .string ⟨#[]⟩, .string ⟨#[]⟩, .string ⟨#[]⟩, .int .i64 0, .int .i64 0] 37 (0, 0)) by rw [Below.heap_setCell _ _ _ _ (by show w.heap.size ≠ w2.heap.size; omega)]; exact HF265.out)
            have HF282 := Lib.hid (show (W18.setCell ⟨w2.heap.size, 7, none⟩ (.int .i64 u)).heap[w2.heap.size]? = some (.cells #[.int .i64 a, .int .i64 b, .int .i64 k, .string x, .string o, .string n, .int .i64 t, .int .i64 u] 37 (0, 0)) by have h := heap_setCell_at (i := 7) (u := .int .i64 u) HF266.out; exact h)
            have HF283 := Lib.hid (show (W18.setCell ⟨w2.heap.size, 7, none⟩ (.int .i64 u)).heap[w2.heap.size + 1]? = some (.cells #[.string Y, .int .i64 (q8 : Int), .int .i64 0] 70 (0, 0)) by rw [Below.heap_setCell _ _ _ _ (by show w2.heap.size + 1 ≠ w2.heap.size; omega)]; exact HF267.out)
            have HB284 := Lib.hid (HB268.out.setCell (p := ⟨w2.heap.size, 7, none⟩) (by show w.heap.size ≤ w2.heap.size; omega) (.int .i64 u))
            have hc285 : (W18.setCell ⟨w2.heap.size, 7, none⟩ (.int .i64 u)).cell? ⟨w2.heap.size + 1, 0, none⟩ = some (.string Y) := by rw [cell_of_row _ _ _ _ _ _ HF283.out]; rfl
            have hc286 : (W18.setCell ⟨w2.heap.size, 7, none⟩ (.int .i64 u)).cell? ⟨w2.heap.size + 1, 1, none⟩ = some (.int .i64 (q8 : Int)) := by rw [cell_of_row _ _ _ _ _ _ HF283.out]; rfl
            have hc287 : (W18.setCell ⟨w2.heap.size, 7, none⟩ (.int .i64 u)).cell? ⟨w2.heap.size + 1, 2, none⟩ = some (.int .i64 0) := by rw [cell_of_row _ _ _ _ _ _ HF283.out]; rfl
            have hc288 : (W18.setCell ⟨w2.heap.size, 7, none⟩ (.int .i64 u)).cell? ⟨w2.heap.size, 0, none⟩ = some (.int .i64 a) := by rw [cell_of_row _ _ _ _ _ _ HF282.out]; rfl
            have hc289 : (W18.setCell ⟨w2.heap.size, 7, none⟩ (.int .i64 u)).cell? ⟨w2.heap.size, 1, none⟩ = some (.int .i64 b) := by rw [cell_of_row _ _ _ _ _ _ HF282.out]; rfl
            have hc290 : (W18.setCell ⟨w2.heap.size, 7, none⟩ (.int .i64 u)).cell? ⟨w2.heap.size, 2, none⟩ = some (.int .i64 k) := by rw [cell_of_row _ _ _ _ _ _ HF282.out]; rfl
            have hc291 : (W18.setCell ⟨w2.heap.size, 7, none⟩ (.int .i64 u)).cell? ⟨w2.heap.size, 3, none⟩ = some (.string x) := by rw [cell_of_row _ _ _ _ _ _ HF282.out]; rfl
            have hc292 : (W18.setCell ⟨w2.heap.size, 7, none⟩ (.int .i64 u)).cell? ⟨w2.heap.size, 4, none⟩ = some (.string o) := by rw [cell_of_row _ _ _ _ _ _ HF282.out]; rfl
            have hc293 : (W18.setCell ⟨w2.heap.size, 7, none⟩ (.int .i64 u)).cell? ⟨w2.heap.size, 5, none⟩ = some (.string n) := by rw [cell_of_row _ _ _ _ _ _ HF282.out]; rfl
            have hc294 : (W18.setCell ⟨w2.heap.size, 7, none⟩ (.int .i64 u)).cell? ⟨w2.heap.size, 6, none⟩ = some (.int .i64 t) := by rw [cell_of_row _ _ _ _ _ _ HF282.out]; rfl
            have hc295 : (W18.setCell ⟨w2.heap.size, 7, none⟩ (.int .i64 u)).cell? ⟨w2.heap.size, 7, none⟩ = some (.int .i64 u) := by rw [cell_of_row _ _ _ _ _ _ HF282.out]; rfl
            go_wp2_with fail
            refine (HIS.out (W18.setCell ⟨w2.heap.size, 7, none⟩ (.int .i64 u))).mono ?_
            rintro e w19 ⟨rfl, hb19⟩
            clear hc269 hc270 hc271 hc272 hc273 hc274 hc275 hc276 hc277 hc278 hc279 hz280 hc285 hc286 hc287 hc288 hc289 hc290 hc291 hc292 hc293 hc294 hc295
            have HF296 := Lib.hid (blk_below HF281.out hb19)
            have HF297 := Lib.hid (blk_below HF282.out hb19)
            have HF298 := Lib.hid (blk_below HF283.out hb19)
            have HB299 := Lib.hid (HB284.out.trans (hb19.mono HB284.out.size))
            clear hb19 HB284 HF281 HF282 HF283
            go_wp2_with (first
              | refine wpList_store_rowY rfl 37 (.tmp 2) (.tmp 95) rfl (w.heap.size) #[.int .i64 0, .int .i64 0, .int .i64 0, .string ⟨#[]⟩, .string ⟨#[]⟩, .string ⟨#[]⟩, .int .i64 0, .int .i64 0] rfl rfl 37 _ HF296.out (info_rec _ _ _ _ _ _ _ _) rfl (one_rec _ _ _ _ _ _ _ _) w.heap.size w HB299.out (by omega) ?_)
            intro W20 hbk hoth hbel _
            have HF300 := Lib.hid hbk.out
            have HF301 := Lib.hid (blk_oth HF297.out hoth.out (by omega))
            have HF302 := Lib.hid (blk_oth HF298.out hoth.out (by omega))
            have HB303 := Lib.hid hbel.out
            clear hbk hoth hbel HB299  HF296 HF297 HF298
            go_wp2_with fail
            refine bodyPost_ret (results_ctY rfl _ _ (w.heap.size) #[.int .i64 0, .int .i64 0, .int .i64 0, .string ⟨#[]⟩, .string ⟨#[]⟩, .string ⟨#[]⟩, .int .i64 0, .int .i64 0] rfl (run_loadVar_row _ (w.heap.size) 37 37 _ (0, 0) _ HF300.out Tryd.underlying37 rfl (info_rec _ _ _ _ _ _ _ _))) rfl ?_
            exact ⟨rfl, HB303.out⟩
          | true =>
            have hne : recD a b k x o n t u ≠ S := by
              unfold recD
              rw [if_pos hr]
              exact fun h => hrec hr h.symm
            rw [hr] at HIS
            generalize recD a b k x o n t u = Q at HPU hne
            have hq3 : (Q.toList == S.toList) = false := lstE2_no hne
            have hq4 : (Q.toList != S.toList) = true := by rw [bne, hq3]; rfl
            clear hr hrec hne
            have HB1 := Lib.hid (Below.refl w.heap.size w)
            go_enter Tryd.func22, Tryd.ntmps22
            go_wp2_with fail
            have HF2 := Lib.hid (blk_new w (.cells #[.int .i64 0, .int .i64 0, .int .i64 0, .string ⟨#[]⟩, .string ⟨#[]⟩, .string ⟨#[]⟩, .int .i64 0, .int .i64 0] 37 (0, 0)))
            have HB3 := Lib.hid (HB1.out.alloc HB1.out.size (.cells #[.int .i64 0, .int .i64 0, .int .i64 0, .string ⟨#[]⟩, .string ⟨#[]⟩, .string ⟨#[]⟩, .int .i64 0, .int .i64 0] 37 (0, 0)))
            clear HB1
            refine (HBR.out (w.alloc (.cells #[.int .i64 0, .int .i64 0, .int .i64 0, .string ⟨#[]⟩, .string ⟨#[]⟩, .string ⟨#[]⟩, .int .i64 0, .int .i64 0] 37 (0, 0)))).mono ?_
            rintro e w1 ⟨rfl, hb1⟩
            have HF4 := Lib.hid (blk_below HF2.out hb1)
            have HB5 := Lib.hid (HB3.out.trans (hb1.mono HB3.out.size))
            clear hb1 HB3 HF2
            go_wp2_with fail
            refine (HOP.out w1).mono ?_
            rintro e w2 ⟨rfl, hb2⟩
            have HF6 := Lib.hid (blk_below HF4.out hb2)
            have HB7 := Lib.hid (HB5.out.trans (hb2.mono HB5.out.size))
            clear hb2 HB5 HF4
            have hk8 : w.heap.size < w2.heap.size := lt_of_block HF6.out
            have HF9 := Lib.hid (blk_alloc HF6.out (.cells #[.int .i64 0, .int .i64 0, .int .i64 0, .string ⟨#[]⟩, .string ⟨#[]⟩, .string ⟨#[]⟩, .int .i64 0, .int .i64 0] 37 (0, 0)))
            have HF10 := Lib.hid (blk_new w2 (.cells #[.int .i64 0, .int .i64 0, .int .i64 0, .string ⟨#[]⟩, .string ⟨#[]⟩, .string ⟨#[]⟩, .int .i64 0, .int .i64 0] 37 (0, 0)))
            have HB11 := Lib.hid (HB7.out.alloc HB7.out.size (.cells #[.int .i64 0, .int .i64 0, .int .i64 0, .string ⟨#[]⟩, .string ⟨#[]⟩, .string ⟨#[]⟩, .int .i64 0, .int .i64 0] 37 (0, 0)))
            clear HB7
            have HF12 := Lib.hid (blk_alloc HF9.out (.cells #[.string Y, .int .i64 0, .int .i64 0] 70 (0, 0)))
            clear HF9
            have HF13 := Lib.hid (blk_alloc HF10.out (.cells #[.string Y, .int .i64 0, .int .i64 0] 70 (0, 0)))
            clear HF10
            have HF14 : Hid (((w2.alloc (.cells #[.int .i64 0, .int .i64 0, .int .i64 0, .string ⟨#[]⟩, .string ⟨#[]⟩, .string ⟨#[]⟩, .int .i64 0, .int .i64 0] 37 (0, 0))).alloc (.cells #[.string Y, .int .i64 0, .int .i64 0] 70 (0, 0))).heap[w2.heap.size + 1]? = some (.cells #[.string Y, .int .i64 0, .int .i64 0] 70 (0, 0))) := Lib.hid (blk_newN (W := (w2.alloc (.cells #[.int .i64 0, .int .i64 0, .int .i64 0, .string ⟨#[]⟩, .string ⟨#[]⟩, .string ⟨#[]⟩, .int .i64 0, .int .i64 0] 37 (0, 0)))) (o := (.cells #[.string Y, .int .i64 0, .int .i64 0] 70 (0, 0))) (by simp))
            have HB15 := Lib.hid (HB11.out.alloc (by have := HB11.out.size; simp at this ⊢ <;> omega) (.cells #[.string Y, .int .i64 0, .int .i64 0] 70 (0, 0)))
            clear HB11
            go_wp2_with fail
            refine (H1.out ((w2.alloc (.cells #[.int .i64 0, .int .i64 0, .int .i64 0, .string ⟨#[]⟩, .string ⟨#[]⟩, .string ⟨#[]⟩, .int .i64 0, .int .i64 0] 37 (0, 0))).alloc (.cells #[.string Y, .int .i64 0, .int .i64 0] 70 (0, 0)))).mono ?_
            rintro e w3 ⟨rfl, hb3⟩
            have HF16 := Lib.hid (blk_below HF12.out hb3)
            have HF17 := Lib.hid (blk_below HF13.out hb3)
            have HF18 := Lib.hid (blk_below HF14.out hb3)
            have HB19 := Lib.hid (HB15.out.trans (hb3.mono HB15.out.size))
            clear hb3 HB15 HF12 HF6 HF13 HF14
            go_wp2_with (first
              | refine wpList_store_rowY rfl 70 (.tmp 8) (.tmp 36) rfl (w2.heap.size + 1) #[.string Y, .int .i64 (q1 : Int), .int .i64 e1] rfl rfl 70 _ HF18.out (info_scE _ _ _) rfl (one_scE _ _ _) w.heap.size w HB19.out (by omega) ?_)
            intro W4 hbk hoth hbel _
            have HF20 := Lib.hid (blk_oth HF16.out hoth.out (by omega))
            have HF21 := Lib.hid (blk_oth HF17.out hoth.out (by omega))
            have HF22 := Lib.hid hbk.out
            have HB23 := Lib.hid hbel.out
            clear hbk hoth hbel HB19  HF16 HF17 HF18
            have hc24 : W4.cell? ⟨w2.heap.size, 0, none⟩ = some (.int .i64 0) := by rw [cell_of_row _ _ _ _ _ _ HF21.out]; rfl
            have hc25 : W4.cell? ⟨w2.heap.size, 1, none⟩ = some (.int .i64 0) := by rw [cell_of_row _ _ _ _ _ _ HF21.out]; rfl
            have hc26 : W4.cell? ⟨w2.heap.size, 2, none⟩ = some (.int .i64 0) := by rw [cell_of_row _ _ _ _ _ _ HF21.out]; rfl
            have hc27 : W4.cell? ⟨w2.heap.size, 3, none⟩ = some (.string ⟨#[]⟩) := by rw [cell_of_row _ _ _ _ _ _ HF21.out]; rfl
            have hc28 : W4.cell? ⟨w2.heap.size, 4, none⟩ = some (.string ⟨#[]⟩) := by rw [cell_of_row _ _ _ _ _ _ HF21.out]; rfl
            have hc29 : W4.cell? ⟨w2.heap.size, 5, none⟩ = some (.string ⟨#[]⟩) := by rw [cell_of_row _ _ _ _ _ _ HF21.out]; rfl
            have hc30 : W4.cell? ⟨w2.heap.size, 6, none⟩ = some (.int .i64 0) := by rw [cell_of_row _ _ _ _ _ _ HF21.out]; rfl
            have hc31 : W4.cell? ⟨w2.heap.size, 7, none⟩ = some (.int .i64 0) := by rw [cell_of_row _ _ _ _ _ _ HF21.out]; rfl
            have hc32 : W4.cell? ⟨w2.heap.size + 1, 0, none⟩ = some (.string Y) := by rw [cell_of_row _ _ _ _ _ _ HF22.out]; rfl
            have hc33 : W4.cell? ⟨w2.heap.size + 1, 1, none⟩ = some (.int .i64 (q1 : Int)) := by rw [cell_of_row _ _ _ _ _ _ HF22.out]; rfl
            have hc34 : W4.cell? ⟨w2.heap.size + 1, 2, none⟩ = some (.int .i64 e1) := by rw [cell_of_row _ _ _ _ _ _ HF22.out]; rfl
            have hz35 : W4.frozen? ⟨w2.heap.size, 0, none⟩ = false := frozen_of_row _ _ _ _ _ HF21.out
            have HF36 := Lib.hid (show (W4.setCell ⟨w2.heap.size, 0, none⟩ (.int .i64 a)).heap[w.heap.size]? = some (.cells #[.int .i64 0, .int .i64 0, .int .i64 0, .string ⟨#[]⟩, .string ⟨#[]⟩, .string ⟨#[]⟩, .int .i64 0, .int .i64 0] 37 (0, 0)) by rw [Below.heap_setCell _ _ _ _ (by show w.heap.size ≠ w2.heap.size; omega)]; exact HF20.out)
            have HF37 := Lib.hid (show (W4.setCell ⟨w2.heap.size, 0, none⟩ (.int .i64 a)).heap[w2.heap.size]? = some (.cells #[.int .i64 a, .int .i64 0, .int .i64 0, .string ⟨#[]⟩, .string ⟨#[]⟩, .string ⟨#[]⟩, .int .i64 0, .int .i64 0] 37 (0, 0)) by have h := heap_setCell_at (i := 0) (u := .int .i64 a) HF21.out; exact h)
            have HF38 := Lib.hid (show (W4.setCell ⟨w2.heap.size, 0, none⟩ (.int .i64 a)).heap[w2.heap.size + 1]? = some (.cells #[.string Y, .int .i64 (q1 : Int), .int .i64 e1] 70 (0, 0)) by rw [Below.heap_setCell _ _ _ _ (by show w2.heap.size + 1 ≠ w2.heap.size; omega)]; exact HF22.out)
            have HB39 := Lib.hid (HB23.out.setCell (p := ⟨w2.heap.size, 0, none⟩) (by show w.heap.size ≤ w2.heap.size; omega) (.int .i64 a))
            have hc40 : (W4.setCell ⟨w2.heap.size, 0, none⟩ (.int .i64 a)).cell? ⟨w2.heap.size + 1, 0, none⟩ = some (.string Y) := by rw [cell_of_row _ _ _ _ _ _ HF38.out]; rfl
            have hc41 : (W4.setCell ⟨w2.heap.size, 0, none⟩ (.int .i64 a)).cell? ⟨w2.heap.size + 1, 1, none⟩ = some (.int .i64 (q1 : Int)) := by rw [cell_of_row _ _ _ _ _ _ HF38.out]; rfl
            have hc42 : (W4.setCell ⟨w2.heap.size, 0, none⟩ (.int .i64 a)).cell? ⟨w2.heap.size + 1, 2, none⟩ = some (.int .i64 e1) := by rw [cell_of_row _ _ _ _ _ _ HF38.out]; rfl
            have hc43 : (W4.setCell ⟨w2.heap.size, 0, none⟩ (.int .i64 a)).cell? ⟨w2.heap.size, 0, none⟩ = some (.int .i64 a) := by rw [cell_of_row _ _ _ _ _ _ HF37.out]; rfl
            have hc44 : (W4.setCell ⟨w2.heap.size, 0, none⟩ (.int .i64 a)).cell? ⟨w2.heap.size, 1, none⟩ = some (.int .i64 0) := by rw [cell_of_row _ _ _ _ _ _ HF37.out]; rfl
            have hc45 : (W4.setCell ⟨w2.heap.size, 0, none⟩ (.int .i64 a)).cell? ⟨w2.heap.size, 2, none⟩ = some (.int .i64 0) := by rw [cell_of_row _ _ _ _ _ _ HF37.out]; rfl
            have hc46 : (W4.setCell ⟨w2.heap.size, 0, none⟩ (.int .i64 a)).cell? ⟨w2.heap.size, 3, none⟩ = some (.string ⟨#[]⟩) := by rw [cell_of_row _ _ _ _ _ _ HF37.out]; rfl
            have hc47 : (W4.setCell ⟨w2.heap.size, 0, none⟩ (.int .i64 a)).cell? ⟨w2.heap.size, 4, none⟩ = some (.string ⟨#[]⟩) := by rw [cell_of_row _ _ _ _ _ _ HF37.out]; rfl
            have hc48 : (W4.setCell ⟨w2.heap.size, 0, none⟩ (.int .i64 a)).cell? ⟨w2.heap.size, 5, none⟩ = some (.string ⟨#[]⟩) := by rw [cell_of_row _ _ _ _ _ _ HF37.out]; rfl
            have hc49 : (W4.setCell ⟨w2.heap.size, 0, none⟩ (.int .i64 a)).cell? ⟨w2.heap.size, 6, none⟩ = some (.int .i64 0) := by rw [cell_of_row _ _ _ _ _ _ HF37.out]; rfl
            have hc50 : (W4.setCell ⟨w2.heap.size, 0, none⟩ (.int .i64 a)).cell? ⟨w2.heap.size, 7, none⟩ = some (.int .i64 0) := by rw [cell_of_row _ _ _ _ _ _ HF37.out]; rfl
            go_wp2_with fail
            refine (H2.out (W4.setCell ⟨w2.heap.size, 0, none⟩ (.int .i64 a))).mono ?_
            rintro e w5 ⟨rfl, hb5⟩
            clear hc24 hc25 hc26 hc27 hc28 hc29 hc30 hc31 hc32 hc33 hc34 hz35 hc40 hc41 hc42 hc43 hc44 hc45 hc46 hc47 hc48 hc49 hc50
            have HF51 := Lib.hid (blk_below HF36.out hb5)
            have HF52 := Lib.hid (blk_below HF37.out hb5)
            have HF53 := Lib.hid (blk_below HF38.out hb5)
            have HB54 := Lib.hid (HB39.out.trans (hb5.mono HB39.out.size))
            clear hb5 HB39 HF36 HF37 HF38
            go_wp2_with (first
              | refine wpList_store_rowY rfl 70 (.tmp 8) (.tmp 42) rfl (w2.heap.size + 1) #[.string Y, .int .i64 (q2 : Int), .int .i64 e2] rfl rfl 70 _ HF53.out (info_scE _ _ _) rfl (one_scE _ _ _) w.heap.size w HB54.out (by omega) ?_)
            intro W6 hbk hoth hbel _
            have HF55 := Lib.hid (blk_oth HF51.out hoth.out (by omega))
            have HF56 := Lib.hid (blk_oth HF52.out hoth.out (by omega))
            have HF57 := Lib.hid hbk.out
            have HB58 := Lib.hid hbel.out
            clear hbk hoth hbel HB54  HF51 HF52 HF53
            have hc59 : W6.cell? ⟨w2.heap.size, 0, none⟩ = some (.int .i64 a) := by rw [cell_of_row _ _ _ _ _ _ HF56.out]; rfl
            have hc60 : W6.cell? ⟨w2.heap.size, 1, none⟩ = some (.int .i64 0) := by rw [cell_of_row _ _ _ _ _ _ HF56.out]; rfl
            have hc61 : W6.cell? ⟨w2.heap.size, 2, none⟩ = some (.int .i64 0) := by rw [cell_of_row _ _ _ _ _ _ HF56.out]; rfl
            have hc62 : W6.cell? ⟨w2.heap.size, 3, none⟩ = some (.string ⟨#[]⟩) := by rw [cell_of_row _ _ _ _ _ _ HF56.out]; rfl
            have hc63 : W6.cell? ⟨w2.heap.size, 4, none⟩ = some (.string ⟨#[]⟩) := by rw [cell_of_row _ _ _ _ _ _ HF56.out]; rfl
            have hc64 : W6.cell? ⟨w2.heap.size, 5, none⟩ = some (.string ⟨#[]⟩) := by rw [cell_of_row _ _ _ _ _ _ HF56.out]; rfl
            have hc65 : W6.cell? ⟨w2.heap.size, 6, none⟩ = some (.int .i64 0) := by rw [cell_of_row _ _ _ _ _ _ HF56.out]; rfl
            have hc66 : W6.cell? ⟨w2.heap.size, 7, none⟩ = some (.int .i64 0) := by rw [cell_of_row _ _ _ _ _ _ HF56.out]; rfl
            have hc67 : W6.cell? ⟨w2.heap.size + 1, 0, none⟩ = some (.string Y) := by rw [cell_of_row _ _ _ _ _ _ HF57.out]; rfl
            have hc68 : W6.cell? ⟨w2.heap.size + 1, 1, none⟩ = some (.int .i64 (q2 : Int)) := by rw [cell_of_row _ _ _ _ _ _ HF57.out]; rfl
            have hc69 : W6.cell? ⟨w2.heap.size + 1, 2, none⟩ = some (.int .i64 e2) := by rw [cell_of_row _ _ _ _ _ _ HF57.out]; rfl
            have hz70 : W6.frozen? ⟨w2.heap.size, 1, none⟩ = false := frozen_of_row _ _ _ _ _ HF56.out
            have HF71 := Lib.hid (show (W6.setCell ⟨w2.heap.size, 1, none⟩ (.int .i64 b)).heap[w.heap.size]? = some (.cells #[.int .i64 0, .int .i64 0, .int .i64 0, .string ⟨#[]⟩, .string ⟨#[]⟩, .string ⟨#[]⟩, .int .i64 0, .int .i64 0] 37 (0, 0)) by rw [Below.heap_setCell _ _ _ _ (by show w.heap.size ≠ w2.heap.size; omega)]; exact HF55.out)
            have HF72 := Lib.hid (show (W6.setCell ⟨w2.heap.size, 1, none⟩ (.int .i64 b)).heap[w2.heap.size]? = some (.cells #[.int .i64 a, .int .i64 b, .int .i64 0, .string ⟨#[]⟩, .string ⟨#[]⟩, .string ⟨#[]⟩, .int .i64 0, .int .i64 0] 37 (0, 0)) by have h := heap_setCell_at (i := 1) (u := .int .i64 b) HF56.out; exact h)
            have HF73 := Lib.hid (show (W6.setCell ⟨w2.heap.size, 1, none⟩ (.int .i64 b)).heap[w2.heap.size + 1]? = some (.cells #[.string Y, .int .i64 (q2 : Int), .int .i64 e2] 70 (0, 0)) by rw [Below.heap_setCell _ _ _ _ (by show w2.heap.size + 1 ≠ w2.heap.size; omega)]; exact HF57.out)
            have HB74 := Lib.hid (HB58.out.setCell (p := ⟨w2.heap.size, 1, none⟩) (by show w.heap.size ≤ w2.heap.size; omega) (.int .i64 b))
            have hc75 : (W6.setCell ⟨w2.heap.size, 1, none⟩ (.int .i64 b)).cell? ⟨w2.heap.size + 1, 0, none⟩ = some (.string Y) := by rw [cell_of_row _ _ _ _ _ _ HF73.out]; rfl
            have hc76 : (W6.setCell ⟨w2.heap.size, 1, none⟩ (.int .i64 b)).cell? ⟨w2.heap.size + 1, 1, none⟩ = some (.int .i64 (q2 : Int)) := by rw [cell_of_row _ _ _ _ _ _ HF73.out]; rfl
            have hc77 : (W6.setCell ⟨w2.heap.size, 1, none⟩ (.int .i64 b)).cell? ⟨w2.heap.size + 1, 2, none⟩ = some (.int .i64 e2) := by rw [cell_of_row _ _ _ _ _ _ HF73.out]; rfl
            have hc78 : (W6.setCell ⟨w2.heap.size, 1, none⟩ (.int .i64 b)).cell? ⟨w2.heap.size, 0, none⟩ = some (.int .i64 a) := by rw [cell_of_row _ _ _ _ _ _ HF72.out]; rfl
            have hc79 : (W6.setCell ⟨w2.heap.size, 1, none⟩ (.int .i64 b)).cell? ⟨w2.heap.size, 1, none⟩ = some (.int .i64 b) := by rw [cell_of_row _ _ _ _ _ _ HF72.out]; rfl
            have hc80 : (W6.setCell ⟨w2.heap.size, 1, none⟩ (.int .i64 b)).cell? ⟨w2.heap.size, 2, none⟩ = some (.int .i64 0) := by rw [cell_of_row _ _ _ _ _ _ HF72.out]; rfl
            have hc81 : (W6.setCell ⟨w2.heap.size, 1, none⟩ (.int .i64 b)).cell? ⟨w2.heap.size, 3, none⟩ = some (.string ⟨#[]⟩) := by rw [cell_of_row _ _ _ _ _ _ HF72.out]; rfl
            have hc82 : (W6.setCell ⟨w2.heap.size, 1, none⟩ (.int .i64 b)).cell? ⟨w2.heap.size, 4, none⟩ = some (.string ⟨#[]⟩) := by rw [cell_of_row _ _ _ _ _ _ HF72.out]; rfl
            have hc83 : (W6.setCell ⟨w2.heap.size, 1, none⟩ (.int .i64 b)).cell? ⟨w2.heap.size, 5, none⟩ = some (.string ⟨#[]⟩) := by rw [cell_of_row _ _ _ _ _ _ HF72.out]; rfl
            have hc84 : (W6.setCell ⟨w2.heap.size, 1, none⟩ (.int .i64 b)).cell? ⟨w2.heap.size, 6, none⟩ = some (.int .i64 0) := by rw [cell_of_row _ _ _ _ _ _ HF72.out]; rfl
            have hc85 : (W6.setCell ⟨w2.heap.size, 1, none⟩ (.int .i64 b)).cell? ⟨w2.heap.size, 7, none⟩ = some (.int .i64 0) := by rw [cell_of_row _ _ _ _ _ _ HF72.out]; rfl
            go_wp2_with fail
            refine (H3.out (W6.setCell ⟨w2.heap.size, 1, none⟩ (.int .i64 b))).mono ?_
            rintro e w7 ⟨rfl, hb7⟩
            clear hc59 hc60 hc61 hc62 hc63 hc64 hc65 hc66 hc67 hc68 hc69 hz70 hc75 hc76 hc77 hc78 hc79 hc80 hc81 hc82 hc83 hc84 hc85
            have HF86 := Lib.hid (blk_below HF71.out hb7)
            have HF87 := Lib.hid (blk_below HF72.out hb7)
            have HF88 := Lib.hid (blk_below HF73.out hb7)
            have HB89 := Lib.hid (HB74.out.trans (hb7.mono HB74.out.size))
            clear hb7 HB74 HF71 HF72 HF73
            go_wp2_with (first
              | refine wpList_store_rowY rfl 70 (.tmp 8) (.tmp 48) rfl (w2.heap.size + 1) #[.string Y, .int .i64 (q3 : Int), .int .i64 e3] rfl rfl 70 _ HF88.out (info_scE _ _ _) rfl (one_scE _ _ _) w.heap.size w HB89.out (by omega) ?_)
            intro W8 hbk hoth hbel _
            have HF90 := Lib.hid (blk_oth HF86.out hoth.out (by omega))
            have HF91 := Lib.hid (blk_oth HF87.out hoth.out (by omega))
            have HF92 := Lib.hid hbk.out
            have HB93 := Lib.hid hbel.out
            clear hbk hoth hbel HB89  HF86 HF87 HF88
            have hc94 : W8.cell? ⟨w2.heap.size, 0, none⟩ = some (.int .i64 a) := by rw [cell_of_row _ _ _ _ _ _ HF91.out]; rfl
            have hc95 : W8.cell? ⟨w2.heap.size, 1, none⟩ = some (.int .i64 b) := by rw [cell_of_row _ _ _ _ _ _ HF91.out]; rfl
            have hc96 : W8.cell? ⟨w2.heap.size, 2, none⟩ = some (.int .i64 0) := by rw [cell_of_row _ _ _ _ _ _ HF91.out]; rfl
            have hc97 : W8.cell? ⟨w2.heap.size, 3, none⟩ = some (.string ⟨#[]⟩) := by rw [cell_of_row _ _ _ _ _ _ HF91.out]; rfl
            have hc98 : W8.cell? ⟨w2.heap.size, 4, none⟩ = some (.string ⟨#[]⟩) := by rw [cell_of_row _ _ _ _ _ _ HF91.out]; rfl
            have hc99 : W8.cell? ⟨w2.heap.size, 5, none⟩ = some (.string ⟨#[]⟩) := by rw [cell_of_row _ _ _ _ _ _ HF91.out]; rfl
            have hc100 : W8.cell? ⟨w2.heap.size, 6, none⟩ = some (.int .i64 0) := by rw [cell_of_row _ _ _ _ _ _ HF91.out]; rfl
            have hc101 : W8.cell? ⟨w2.heap.size, 7, none⟩ = some (.int .i64 0) := by rw [cell_of_row _ _ _ _ _ _ HF91.out]; rfl
            have hc102 : W8.cell? ⟨w2.heap.size + 1, 0, none⟩ = some (.string Y) := by rw [cell_of_row _ _ _ _ _ _ HF92.out]; rfl
            have hc103 : W8.cell? ⟨w2.heap.size + 1, 1, none⟩ = some (.int .i64 (q3 : Int)) := by rw [cell_of_row _ _ _ _ _ _ HF92.out]; rfl
            have hc104 : W8.cell? ⟨w2.heap.size + 1, 2, none⟩ = some (.int .i64 e3) := by rw [cell_of_row _ _ _ _ _ _ HF92.out]; rfl
            have hz105 : W8.frozen? ⟨w2.heap.size, 2, none⟩ = false := frozen_of_row _ _ _ _ _ HF91.out
            have HF106 := Lib.hid (show (W8.setCell ⟨w2.heap.size, 2, none⟩ (.int .i64 k)).heap[w.heap.size]? = some (.cells #[.int .i64 0, .int .i64 0, .int .i64 0, .string ⟨#[]⟩, .string ⟨#[]⟩, .string ⟨#[]⟩, .int .i64 0, .int .i64 0] 37 (0, 0)) by rw [Below.heap_setCell _ _ _ _ (by show w.heap.size ≠ w2.heap.size; omega)]; exact HF90.out)
            have HF107 := Lib.hid (show (W8.setCell ⟨w2.heap.size, 2, none⟩ (.int .i64 k)).heap[w2.heap.size]? = some (.cells #[.int .i64 a, .int .i64 b, .int .i64 k, .string ⟨#[]⟩, .string ⟨#[]⟩, .string ⟨#[]⟩, .int .i64 0, .int .i64 0] 37 (0, 0)) by have h := heap_setCell_at (i := 2) (u := .int .i64 k) HF91.out; exact h)
            have HF108 := Lib.hid (show (W8.setCell ⟨w2.heap.size, 2, none⟩ (.int .i64 k)).heap[w2.heap.size + 1]? = some (.cells #[.string Y, .int .i64 (q3 : Int), .int .i64 e3] 70 (0, 0)) by rw [Below.heap_setCell _ _ _ _ (by show w2.heap.size + 1 ≠ w2.heap.size; omega)]; exact HF92.out)
            have HB109 := Lib.hid (HB93.out.setCell (p := ⟨w2.heap.size, 2, none⟩) (by show w.heap.size ≤ w2.heap.size; omega) (.int .i64 k))
            have hc110 : (W8.setCell ⟨w2.heap.size, 2, none⟩ (.int .i64 k)).cell? ⟨w2.heap.size + 1, 0, none⟩ = some (.string Y) := by rw [cell_of_row _ _ _ _ _ _ HF108.out]; rfl
            have hc111 : (W8.setCell ⟨w2.heap.size, 2, none⟩ (.int .i64 k)).cell? ⟨w2.heap.size + 1, 1, none⟩ = some (.int .i64 (q3 : Int)) := by rw [cell_of_row _ _ _ _ _ _ HF108.out]; rfl
            have hc112 : (W8.setCell ⟨w2.heap.size, 2, none⟩ (.int .i64 k)).cell? ⟨w2.heap.size + 1, 2, none⟩ = some (.int .i64 e3) := by rw [cell_of_row _ _ _ _ _ _ HF108.out]; rfl
            have hc113 : (W8.setCell ⟨w2.heap.size, 2, none⟩ (.int .i64 k)).cell? ⟨w2.heap.size, 0, none⟩ = some (.int .i64 a) := by rw [cell_of_row _ _ _ _ _ _ HF107.out]; rfl
            have hc114 : (W8.setCell ⟨w2.heap.size, 2, none⟩ (.int .i64 k)).cell? ⟨w2.heap.size, 1, none⟩ = some (.int .i64 b) := by rw [cell_of_row _ _ _ _ _ _ HF107.out]; rfl
            have hc115 : (W8.setCell ⟨w2.heap.size, 2, none⟩ (.int .i64 k)).cell? ⟨w2.heap.size, 2, none⟩ = some (.int .i64 k) := by rw [cell_of_row _ _ _ _ _ _ HF107.out]; rfl
            have hc116 : (W8.setCell ⟨w2.heap.size, 2, none⟩ (.int .i64 k)).cell? ⟨w2.heap.size, 3, none⟩ = some (.string ⟨#[]⟩) := by rw [cell_of_row _ _ _ _ _ _ HF107.out]; rfl
            have hc117 : (W8.setCell ⟨w2.heap.size, 2, none⟩ (.int .i64 k)).cell? ⟨w2.heap.size, 4, none⟩ = some (.string ⟨#[]⟩) := by rw [cell_of_row _ _ _ _ _ _ HF107.out]; rfl
            have hc118 : (W8.setCell ⟨w2.heap.size, 2, none⟩ (.int .i64 k)).cell? ⟨w2.heap.size, 5, none⟩ = some (.string ⟨#[]⟩) := by rw [cell_of_row _ _ _ _ _ _ HF107.out]; rfl
            have hc119 : (W8.setCell ⟨w2.heap.size, 2, none⟩ (.int .i64 k)).cell? ⟨w2.heap.size, 6, none⟩ = some (.int .i64 0) := by rw [cell_of_row _ _ _ _ _ _ HF107.out]; rfl
            have hc120 : (W8.setCell ⟨w2.heap.size, 2, none⟩ (.int .i64 k)).cell? ⟨w2.heap.size, 7, none⟩ = some (.int .i64 0) := by rw [cell_of_row _ _ _ _ _ _ HF107.out]; rfl
            go_wp2_with fail
            refine (H4.out (W8.setCell ⟨w2.heap.size, 2, none⟩ (.int .i64 k))).mono ?_
            rintro e w9 ⟨rfl, hb9⟩
            clear hc94 hc95 hc96 hc97 hc98 hc99 hc100 hc101 hc102 hc103 hc104 hz105 hc110 hc111 hc112 hc113 hc114 hc115 hc116 hc117 hc118 hc119 hc120
            have HF121 := Lib.hid (blk_below HF106.out hb9)
            have HF122 := Lib.hid (blk_below HF107.out hb9)
            have HF123 := Lib.hid (blk_below HF108.out hb9)
            have HB124 := Lib.hid (HB109.out.trans (hb9.mono HB109.out.size))
            clear hb9 HB109 HF106 HF107 HF108
            go_wp2_with (first
              | refine wpList_store_rowY rfl 70 (.tmp 8) (.tmp 54) rfl (w2.heap.size + 1) #[.string Y, .int .i64 (q4 : Int), .int .i64 e4] rfl rfl 70 _ HF123.out (info_scE _ _ _) rfl (one_scE _ _ _) w.heap.size w HB124.out (by omega) ?_)
            intro W10 hbk hoth hbel _
            have HF125 := Lib.hid (blk_oth HF121.out hoth.out (by omega))
            have HF126 := Lib.hid (blk_oth HF122.out hoth.out (by omega))
            have HF127 := Lib.hid hbk.out
            have HB128 := Lib.hid hbel.out
            clear hbk hoth hbel HB124  HF121 HF122 HF123
            have hc129 : W10.cell? ⟨w2.heap.size, 0, none⟩ = some (.int .i64 a) := by rw [cell_of_row _ _ _ _ _ _ HF126.out]; rfl
            have hc130 : W10.cell? ⟨w2.heap.size, 1, none⟩ = some (.int .i64 b) := by rw [cell_of_row _ _ _ _ _ _ HF126.out]; rfl
            have hc131 : W10.cell? ⟨w2.heap.size, 2, none⟩ = some (.int .i64 k) := by rw [cell_of_row _ _ _ _ _ _ HF126.out]; rfl
            have hc132 : W10.cell? ⟨w2.heap.size, 3, none⟩ = some (.string ⟨#[]⟩) := by rw [cell_of_row _ _ _ _ _ _ HF126.out]; rfl
            have hc133 : W10.cell? ⟨w2.heap.size, 4, none⟩ = some (.string ⟨#[]⟩) := by rw [cell_of_row _ _ _ _ _ _ HF126.out]; rfl
            have hc134 : W10.cell? ⟨w2.heap.size, 5, none⟩ = some (.string ⟨#[]⟩) := by rw [cell_of_row _ _ _ _ _ _ HF126.out]; rfl
            have hc135 : W10.cell? ⟨w2.heap.size, 6, none⟩ = some (.int .i64 0) := by rw [cell_of_row _ _ _ _ _ _ HF126.out]; rfl
            have hc136 : W10.cell? ⟨w2.heap.size, 7, none⟩ = some (.int .i64 0) := by rw [cell_of_row _ _ _ _ _ _ HF126.out]; rfl
            have hc137 : W10.cell? ⟨w2.heap.size + 1, 0, none⟩ = some (.string Y) := by rw [cell_of_row _ _ _ _ _ _ HF127.out]; rfl
            have hc138 : W10.cell? ⟨w2.heap.size + 1, 1, none⟩ = some (.int .i64 (q4 : Int)) := by rw [cell_of_row _ _ _ _ _ _ HF127.out]; rfl
            have hc139 : W10.cell? ⟨w2.heap.size + 1, 2, none⟩ = some (.int .i64 e4) := by rw [cell_of_row _ _ _ _ _ _ HF127.out]; rfl
            have hz140 : W10.frozen? ⟨w2.heap.size, 3, none⟩ = false := frozen_of_row _ _ _ _ _ HF126.out
            have HF141 := Lib.hid (show (W10.setCell ⟨w2.heap.size, 3, none⟩ (.string x)).heap[w.heap.size]? = some (.cells #[.int .i64 0, .int .i64 0, .int .i64 0, .string ⟨#[]⟩, .string ⟨#[]⟩, .string ⟨#[]⟩, .int .i64 0, .int .i64 0] 37 (0, 0)) by rw [Below.heap_setCell _ _ _ _ (by show w.heap.size ≠ w2.heap.size; omega)]; exact HF125.out)
            have HF142 := Lib.hid (show (W10.setCell ⟨w2.heap.size, 3, none⟩ (.string x)).heap[w2.heap.size]? = some (.cells #[.int .i64 a, .int .i64 b, .int .i64 k, .string x, .string ⟨#[]⟩, .string ⟨#[]⟩, .int .i64 0, .int .i64 0] 37 (0, 0)) by have h := heap_setCell_at (i := 3) (u := .string x) HF126.out; exact h)
            have HF143 := Lib.hid (show (W10.setCell ⟨w2.heap.size, 3, none⟩ (.string x)).heap[w2.heap.size + 1]? = some (.cells #[.string Y, .int .i64 (q4 : Int), .int .i64 e4] 70 (0, 0)) by rw [Below.heap_setCell _ _ _ _ (by show w2.heap.size + 1 ≠ w2.heap.size; omega)]; exact HF127.out)
            have HB144 := Lib.hid (HB128.out.setCell (p := ⟨w2.heap.size, 3, none⟩) (by show w.heap.size ≤ w2.heap.size; omega) (.string x))
            have hc145 : (W10.setCell ⟨w2.heap.size, 3, none⟩ (.string x)).cell? ⟨w2.heap.size + 1, 0, none⟩ = some (.string Y) := by rw [cell_of_row _ _ _ _ _ _ HF143.out]; rfl
            have hc146 : (W10.setCell ⟨w2.heap.size, 3, none⟩ (.string x)).cell? ⟨w2.heap.size + 1, 1, none⟩ = some (.int .i64 (q4 : Int)) := by rw [cell_of_row _ _ _ _ _ _ HF143.out]; rfl
            have hc147 : (W10.setCell ⟨w2.heap.size, 3, none⟩ (.string x)).cell? ⟨w2.heap.size + 1, 2, none⟩ = some (.int .i64 e4) := by rw [cell_of_row _ _ _ _ _ _ HF143.out]; rfl
            have hc148 : (W10.setCell ⟨w2.heap.size, 3, none⟩ (.string x)).cell? ⟨w2.heap.size, 0, none⟩ = some (.int .i64 a) := by rw [cell_of_row _ _ _ _ _ _ HF142.out]; rfl
            have hc149 : (W10.setCell ⟨w2.heap.size, 3, none⟩ (.string x)).cell? ⟨w2.heap.size, 1, none⟩ = some (.int .i64 b) := by rw [cell_of_row _ _ _ _ _ _ HF142.out]; rfl
            have hc150 : (W10.setCell ⟨w2.heap.size, 3, none⟩ (.string x)).cell? ⟨w2.heap.size, 2, none⟩ = some (.int .i64 k) := by rw [cell_of_row _ _ _ _ _ _ HF142.out]; rfl
            have hc151 : (W10.setCell ⟨w2.heap.size, 3, none⟩ (.string x)).cell? ⟨w2.heap.size, 3, none⟩ = some (.string x) := by rw [cell_of_row _ _ _ _ _ _ HF142.out]; rfl
            have hc152 : (W10.setCell ⟨w2.heap.size, 3, none⟩ (.string x)).cell? ⟨w2.heap.size, 4, none⟩ = some (.string ⟨#[]⟩) := by rw [cell_of_row _ _ _ _ _ _ HF142.out]; rfl
            have hc153 : (W10.setCell ⟨w2.heap.size, 3, none⟩ (.string x)).cell? ⟨w2.heap.size, 5, none⟩ = some (.string ⟨#[]⟩) := by rw [cell_of_row _ _ _ _ _ _ HF142.out]; rfl
            have hc154 : (W10.setCell ⟨w2.heap.size, 3, none⟩ (.string x)).cell? ⟨w2.heap.size, 6, none⟩ = some (.int .i64 0) := by rw [cell_of_row _ _ _ _ _ _ HF142.out]; rfl
            have hc155 : (W10.setCell ⟨w2.heap.size, 3, none⟩ (.string x)).cell? ⟨w2.heap.size, 7, none⟩ = some (.int .i64 0) := by rw [cell_of_row _ _ _ _ _ _ HF142.out]; rfl
            go_wp2_with fail
            refine (H5.out (W10.setCell ⟨w2.heap.size, 3, none⟩ (.string x))).mono ?_
            rintro e w11 ⟨rfl, hb11⟩
            clear hc129 hc130 hc131 hc132 hc133 hc134 hc135 hc136 hc137 hc138 hc139 hz140 hc145 hc146 hc147 hc148 hc149 hc150 hc151 hc152 hc153 hc154 hc155
            have HF156 := Lib.hid (blk_below HF141.out hb11)
            have HF157 := Lib.hid (blk_below HF142.out hb11)
            have HF158 := Lib.hid (blk_below HF143.out hb11)
            have HB159 := Lib.hid (HB144.out.trans (hb11.mono HB144.out.size))
            clear hb11 HB144 HF141 HF142 HF143
            go_wp2_with (first
              | refine wpList_store_rowY rfl 70 (.tmp 8) (.tmp 60) rfl (w2.heap.size + 1) #[.string Y, .int .i64 (q5 : Int), .int .i64 e5] rfl rfl 70 _ HF158.out (info_scE _ _ _) rfl (one_scE _ _ _) w.heap.size w HB159.out (by omega) ?_)
            intro W12 hbk hoth hbel _
            have HF160 := Lib.hid (blk_oth HF156.out hoth.out (by omega))
            have HF161 := Lib.hid (blk_oth HF157.out hoth.out (by omega))
            have HF162 := Lib.hid hbk.out
            have HB163 := Lib.hid hbel.out
            clear hbk hoth hbel HB159  HF156 HF157 HF158
            have hc164 : W12.cell? ⟨w2.heap.size, 0, none⟩ = some (.int .i64 a) := by rw [cell_of_row _ _ _ _ _ _ HF161.out]; rfl
            have hc165 : W12.cell? ⟨w2.heap.size, 1, none⟩ = some (.int .i64 b) := by rw [cell_of_row _ _ _ _ _ _ HF161.out]; rfl
            have hc166 : W12.cell? ⟨w2.heap.size, 2, none⟩ = some (.int .i64 k) := by rw [cell_of_row _ _ _ _ _ _ HF161.out]; rfl
            have hc167 : W12.cell? ⟨w2.heap.size, 3, none⟩ = some (.string x) := by rw [cell_of_row _ _ _ _ _ _ HF161.out]; rfl
            have hc168 : W12.cell? ⟨w2.heap.size, 4, none⟩ = some (.string ⟨#[]⟩) := by rw [cell_of_row _ _ _ _ _ _ HF161.out]; rfl
            have hc169 : W12.cell? ⟨w2.heap.size, 5, none⟩ = some (.string ⟨#[]⟩) := by rw [cell_of_row _ _ _ _ _ _ HF161.out]; rfl
            have hc170 : W12.cell? ⟨w2.heap.size, 6, none⟩ = some (.int .i64 0) := by rw [cell_of_row _ _ _ _ _ _ HF161.out]; rfl
            have hc171 : W12.cell? ⟨w2.heap.size, 7, none⟩ = some (.int .i64 0) := by rw [cell_of_row _ _ _ _ _ _ HF161.out]; rfl
            have hc172 : W12.cell? ⟨w2.heap.size + 1, 0, none⟩ = some (.string Y) := by rw [cell_of_row _ _ _ _ _ _ HF162.out]; rfl
            have hc173 : W12.cell? ⟨w2.heap.size + 1, 1, none⟩ = some (.int .i64 (q5 : Int)) := by rw [cell_of_row _ _ _ _ _ _ HF162.out]; rfl
            have hc174 : W12.cell? ⟨w2.heap.size + 1, 2, none⟩ = some (.int .i64 e5) := by rw [cell_of_row _ _ _ _ _ _ HF162.out]; rfl
            have hz175 : W12.frozen? ⟨w2.heap.size, 4, none⟩ = false := frozen_of_row _ _ _ _ _ HF161.out
            have HF176 := Lib.hid (show (W12.setCell ⟨w2.heap.size, 4, none⟩ (.string o)).heap[w.heap.size]? = some (.cells #[.int .i64 0, .int .i64 0, .int .i64 0, .string ⟨#[]⟩, .string ⟨#[]⟩, .string ⟨#[]⟩, .int .i64 0, .int .i64 0] 37 (0, 0)) by rw [Below.heap_setCell _ _ _ _ (by show w.heap.size ≠ w2.heap.size; omega)]; exact HF160.out)
            have HF177 := Lib.hid (show (W12.setCell ⟨w2.heap.size, 4, none⟩ (.string o)).heap[w2.heap.size]? = some (.cells #[.int .i64 a, .int .i64 b, .int .i64 k, .string x, .string o, .string ⟨#[]⟩, .int .i64 0, .int .i64 0] 37 (0, 0)) by have h := heap_setCell_at (i := 4) (u := .string o) HF161.out; exact h)
            have HF178 := Lib.hid (show (W12.setCell ⟨w2.heap.size, 4, none⟩ (.string o)).heap[w2.heap.size + 1]? = some (.cells #[.string Y, .int .i64 (q5 : Int), .int .i64 e5] 70 (0, 0)) by rw [Below.heap_setCell _ _ _ _ (by show w2.heap.size + 1 ≠ w2.heap.size; omega)]; exact HF162.out)
            have HB179 := Lib.hid (HB163.out.setCell (p := ⟨w2.heap.size, 4, none⟩) (by show w.heap.size ≤ w2.heap.size; omega) (.string o))
            have hc180 : (W12.setCell ⟨w2.heap.size, 4, none⟩ (.string o)).cell? ⟨w2.heap.size + 1, 0, none⟩ = some (.string Y) := by rw [cell_of_row _ _ _ _ _ _ HF178.out]; rfl
            have hc181 : (W12.setCell ⟨w2.heap.size, 4, none⟩ (.string o)).cell? ⟨w2.heap.size + 1, 1, none⟩ = some (.int .i64 (q5 : Int)) := by rw [cell_of_row _ _ _ _ _ _ HF178.out]; rfl
            have hc182 : (W12.setCell ⟨w2.heap.size, 4, none⟩ (.string o)).cell? ⟨w2.heap.size + 1, 2, none⟩ = some (.int .i64 e5) := by rw [cell_of_row _ _ _ _ _ _ HF178.out]; rfl
            have hc183 : (W12.setCell ⟨w2.heap.size, 4, none⟩ (.string o)).cell? ⟨w2.heap.size, 0, none⟩ = some (.int .i64 a) := by rw [cell_of_row _ _ _ _ _ _ HF177.out]; rfl
            have hc184 : (W12.setCell ⟨w2.heap.size, 4, none⟩ (.string o)).cell? ⟨w2.heap.size, 1, none⟩ = some (.int .i64 b) := by rw [cell_of_row _ _ _ _ _ _ HF177.out]; rfl
            have hc185 : (W12.setCell ⟨w2.heap.size, 4, none⟩ (.string o)).cell? ⟨w2.heap.size, 2, none⟩ = some (.int .i64 k) := by rw [cell_of_row _ _ _ _ _ _ HF177.out]; rfl
            have hc186 : (W12.setCell ⟨w2.heap.size, 4, none⟩ (.string o)).cell? ⟨w2.heap.size, 3, none⟩ = some (.string x) := by rw [cell_of_row _ _ _ _ _ _ HF177.out]; rfl
            have hc187 : (W12.setCell ⟨w2.heap.size, 4, none⟩ (.string o)).cell? ⟨w2.heap.size, 4, none⟩ = some (.string o) := by rw [cell_of_row _ _ _ _ _ _ HF177.out]; rfl
            have hc188 : (W12.setCell ⟨w2.heap.size, 4, none⟩ (.string o)).cell? ⟨w2.heap.size, 5, none⟩ = some (.string ⟨#[]⟩) := by rw [cell_of_row _ _ _ _ _ _ HF177.out]; rfl
            have hc189 : (W12.setCell ⟨w2.heap.size, 4, none⟩ (.string o)).cell? ⟨w2.heap.size, 6, none⟩ = some (.int .i64 0) := by rw [cell_of_row _ _ _ _ _ _ HF177.out]; rfl
            have hc190 : (W12.setCell ⟨w2.heap.size, 4, none⟩ (.string o)).cell? ⟨w2.heap.size, 7, none⟩ = some (.int .i64 0) := by rw [cell_of_row _ _ _ _ _ _ HF177.out]; rfl
            go_wp2_with fail
            refine (H6.out (W12.setCell ⟨w2.heap.size, 4, none⟩ (.string o))).mono ?_
            rintro e w13 ⟨rfl, hb13⟩
            clear hc164 hc165 hc166 hc167 hc168 hc169 hc170 hc171 hc172 hc173 hc174 hz175 hc180 hc181 hc182 hc183 hc184 hc185 hc186 hc187 hc188 hc189 hc190
            have HF191 := Lib.hid (blk_below HF176.out hb13)
            have HF192 := Lib.hid (blk_below HF177.out hb13)
            have HF193 := Lib.hid (blk_below HF178.out hb13)
            have HB194 := Lib.hid (HB179.out.trans (hb13.mono HB179.out.size))
            clear hb13 HB179 HF176 HF177 HF178
            go_wp2_with (first
              | refine wpList_store_rowY rfl 70 (.tmp 8) (.tmp 66) rfl (w2.heap.size + 1) #[.string Y, .int .i64 (q6 : Int), .int .i64 e6] rfl rfl 70 _ HF193.out (info_scE _ _ _) rfl (one_scE _ _ _) w.heap.size w HB194.out (by omega) ?_)
            intro W14 hbk hoth hbel _
            have HF195 := Lib.hid (blk_oth HF191.out hoth.out (by omega))
            have HF196 := Lib.hid (blk_oth HF192.out hoth.out (by omega))
            have HF197 := Lib.hid hbk.out
            have HB198 := Lib.hid hbel.out
            clear hbk hoth hbel HB194  HF191 HF192 HF193
            have hc199 : W14.cell? ⟨w2.heap.size, 0, none⟩ = some (.int .i64 a) := by rw [cell_of_row _ _ _ _ _ _ HF196.out]; rfl
            have hc200 : W14.cell? ⟨w2.heap.size, 1, none⟩ = some (.int .i64 b) := by rw [cell_of_row _ _ _ _ _ _ HF196.out]; rfl
            have hc201 : W14.cell? ⟨w2.heap.size, 2, none⟩ = some (.int .i64 k) := by rw [cell_of_row _ _ _ _ _ _ HF196.out]; rfl
            have hc202 : W14.cell? ⟨w2.heap.size, 3, none⟩ = some (.string x) := by rw [cell_of_row _ _ _ _ _ _ HF196.out]; rfl
            have hc203 : W14.cell? ⟨w2.heap.size, 4, none⟩ = some (.string o) := by rw [cell_of_row _ _ _ _ _ _ HF196.out]; rfl
            have hc204 : W14.cell? ⟨w2.heap.size, 5, none⟩ = some (.string ⟨#[]⟩) := by rw [cell_of_row _ _ _ _ _ _ HF196.out]; rfl
            have hc205 : W14.cell? ⟨w2.heap.size, 6, none⟩ = some (.int .i64 0) := by rw [cell_of_row _ _ _ _ _ _ HF196.out]; rfl
            have hc206 : W14.cell? ⟨w2.heap.size, 7, none⟩ = some (.int .i64 0) := by rw [cell_of_row _ _ _ _ _ _ HF196.out]; rfl
            have hc207 : W14.cell? ⟨w2.heap.size + 1, 0, none⟩ = some (.string Y) := by rw [cell_of_row _ _ _ _ _ _ HF197.out]; rfl
            have hc208 : W14.cell? ⟨w2.heap.size + 1, 1, none⟩ = some (.int .i64 (q6 : Int)) := by rw [cell_of_row _ _ _ _ _ _ HF197.out]; rfl
            have hc209 : W14.cell? ⟨w2.heap.size + 1, 2, none⟩ = some (.int .i64 e6) := by rw [cell_of_row _ _ _ _ _ _ HF197.out]; rfl
            have hz210 : W14.frozen? ⟨w2.heap.size, 5, none⟩ = false := frozen_of_row _ _ _ _ _ HF196.out
            have HF211 := Lib.hid (show (W14.setCell ⟨w2.heap.size, 5, none⟩ (.string n)).heap[w.heap.size]? = some (.cells #[.int .i64 0, .int .i64 0, .int .i64 0, .string ⟨#[]⟩, .string ⟨#[]⟩, .string ⟨#[]⟩, .int .i64 0, .int .i64 0] 37 (0, 0)) by rw [Below.heap_setCell _ _ _ _ (by show w.heap.size ≠ w2.heap.size; omega)]; exact HF195.out)
            have HF212 := Lib.hid (show (W14.setCell ⟨w2.heap.size, 5, none⟩ (.string n)).heap[w2.heap.size]? = some (.cells #[.int .i64 a, .int .i64 b, .int .i64 k, .string x, .string o, .string n, .int .i64 0, .int .i64 0] 37 (0, 0)) by have h := heap_setCell_at (i := 5) (u := .string n) HF196.out; exact h)
            have HF213 := Lib.hid (show (W14.setCell ⟨w2.heap.size, 5, none⟩ (.string n)).heap[w2.heap.size + 1]? = some (.cells #[.string Y, .int .i64 (q6 : Int), .int .i64 e6] 70 (0, 0)) by rw [Below.heap_setCell _ _ _ _ (by show w2.heap.size + 1 ≠ w2.heap.size; omega)]; exact HF197.out)
            have HB214 := Lib.hid (HB198.out.setCell (p := ⟨w2.heap.size, 5, none⟩) (by show w.heap.size ≤ w2.heap.size; omega) (.string n))
            have hc215 : (W14.setCell ⟨w2.heap.size, 5, none⟩ (.string n)).cell? ⟨w2.heap.size + 1, 0, none⟩ = some (.string Y) := by rw [cell_of_row _ _ _ _ _ _ HF213.out]; rfl
            have hc216 : (W14.setCell ⟨w2.heap.size, 5, none⟩ (.string n)).cell? ⟨w2.heap.size + 1, 1, none⟩ = some (.int .i64 (q6 : Int)) := by rw [cell_of_row _ _ _ _ _ _ HF213.out]; rfl
            have hc217 : (W14.setCell ⟨w2.heap.size, 5, none⟩ (.string n)).cell? ⟨w2.heap.size + 1, 2, none⟩ = some (.int .i64 e6) := by rw [cell_of_row _ _ _ _ _ _ HF213.out]; rfl
            have hc218 : (W14.setCell ⟨w2.heap.size, 5, none⟩ (.string n)).cell? ⟨w2.heap.size, 0, none⟩ = some (.int .i64 a) := by rw [cell_of_row _ _ _ _ _ _ HF212.out]; rfl
            have hc219 : (W14.setCell ⟨w2.heap.size, 5, none⟩ (.string n)).cell? ⟨w2.heap.size, 1, none⟩ = some (.int .i64 b) := by rw [cell_of_row _ _ _ _ _ _ HF212.out]; rfl
            have hc220 : (W14.setCell ⟨w2.heap.size, 5, none⟩ (.string n)).cell? ⟨w2.heap.size, 2, none⟩ = some (.int .i64 k) := by rw [cell_of_row _ _ _ _ _ _ HF212.out]; rfl
            have hc221 : (W14.setCell ⟨w2.heap.size, 5, none⟩ (.string n)).cell? ⟨w2.heap.size, 3, none⟩ = some (.string x) := by rw [cell_of_row _ _ _ _ _ _ HF212.out]; rfl
            have hc222 : (W14.setCell ⟨w2.heap.size, 5, none⟩ (.string n)).cell? ⟨w2.heap.size, 4, none⟩ = some (.string o) := by rw [cell_of_row _ _ _ _ _ _ HF212.out]; rfl
            have hc223 : (W14.setCell ⟨w2.heap.size, 5, none⟩ (.string n)).cell? ⟨w2.heap.size, 5, none⟩ = some (.string n) := by rw [cell_of_row _ _ _ _ _ _ HF212.out]; rfl
            have hc224 : (W14.setCell ⟨w2.heap.size, 5, none⟩ (.string n)).cell? ⟨w2.heap.size, 6, none⟩ = some (.int .i64 0) := by rw [cell_of_row _ _ _ _ _ _ HF212.out]; rfl
            have hc225 : (W14.setCell ⟨w2.heap.size, 5, none⟩ (.string n)).cell? ⟨w2.heap.size, 7, none⟩ = some (.int .i64 0) := by rw [cell_of_row _ _ _ _ _ _ HF212.out]; rfl
            go_wp2_with fail
            refine (H7.out (W14.setCell ⟨w2.heap.size, 5, none⟩ (.string n))).mono ?_
            rintro e w15 ⟨rfl, hb15⟩
            clear hc199 hc200 hc201 hc202 hc203 hc204 hc205 hc206 hc207 hc208 hc209 hz210 hc215 hc216 hc217 hc218 hc219 hc220 hc221 hc222 hc223 hc224 hc225
            have HF226 := Lib.hid (blk_below HF211.out hb15)
            have HF227 := Lib.hid (blk_below HF212.out hb15)
            have HF228 := Lib.hid (blk_below HF213.out hb15)
            have HB229 := Lib.hid (HB214.out.trans (hb15.mono HB214.out.size))
            clear hb15 HB214 HF211 HF212 HF213
            go_wp2_with (first
              | refine wpList_store_rowY rfl 70 (.tmp 8) (.tmp 72) rfl (w2.heap.size + 1) #[.string Y, .int .i64 (q7 : Int), .int .i64 e7] rfl rfl 70 _ HF228.out (info_scE _ _ _) rfl (one_scE _ _ _) w.heap.size w HB229.out (by omega) ?_)
            intro W16 hbk hoth hbel _
            have HF230 := Lib.hid (blk_oth HF226.out hoth.out (by omega))
            have HF231 := Lib.hid (blk_oth HF227.out hoth.out (by omega))
            have HF232 := Lib.hid hbk.out
            have HB233 := Lib.hid hbel.out
            clear hbk hoth hbel HB229  HF226 HF227 HF228
            have hc234 : W16.cell? ⟨w2.heap.size, 0, none⟩ = some (.int .i64 a) := by rw [cell_of_row _ _ _ _ _ _ HF231.out]; rfl
            have hc235 : W16.cell? ⟨w2.heap.size, 1, none⟩ = some (.int .i64 b) := by rw [cell_of_row _ _ _ _ _ _ HF231.out]; rfl
            have hc236 : W16.cell? ⟨w2.heap.size, 2, none⟩ = some (.int .i64 k) := by rw [cell_of_row _ _ _ _ _ _ HF231.out]; rfl
            have hc237 : W16.cell? ⟨w2.heap.size, 3, none⟩ = some (.string x) := by rw [cell_of_row _ _ _ _ _ _ HF231.out]; rfl
            have hc238 : W16.cell? ⟨w2.heap.size, 4, none⟩ = some (.string o) := by rw [cell_of_row _ _ _ _ _ _ HF231.out]; rfl
            have hc239 : W16.cell? ⟨w2.heap.size, 5, none⟩ = some (.string n) := by rw [cell_of_row _ _ _ _ _ _ HF231.out]; rfl
            have hc240 : W16.cell? ⟨w2.heap.size, 6, none⟩ = some (.int .i64 0) := by rw [cell_of_row _ _ _ _ _ _ HF231.out]; rfl
            have hc241 : W16.cell? ⟨w2.heap.size, 7, none⟩ = some (.int .i64 0) := by rw [cell_of_row _ _ _ _ _ _ HF231.out]; rfl
            have hc242 : W16.cell? ⟨w2.heap.size + 1, 0, none⟩ = some (.string Y) := by rw [cell_of_row _ _ _ _ _ _ HF232.out]; rfl
            have hc243 : W16.cell? ⟨w2.heap.size + 1, 1, none⟩ = some (.int .i64 (q7 : Int)) := by rw [cell_of_row _ _ _ _ _ _ HF232.out]; rfl
            have hc244 : W16.cell? ⟨w2.heap.size + 1, 2, none⟩ = some (.int .i64 e7) := by rw [cell_of_row _ _ _ _ _ _ HF232.out]; rfl
            have hz245 : W16.frozen? ⟨w2.heap.size, 6, none⟩ = false := frozen_of_row _ _ _ _ _ HF231.out
            have HF246 := Lib.hid (show (W16.setCell ⟨w2.heap.size, 6, none⟩ (.int .i64 t)).heap[w.heap.size]? = some (.cells #[.int .i64 0, .int .i64 0, .int .i64 0, .string ⟨#[]⟩, .string ⟨#[]⟩, .string ⟨#[]⟩, .int .i64 0, .int .i64 0] 37 (0, 0)) by rw [Below.heap_setCell _ _ _ _ (by show w.heap.size ≠ w2.heap.size; omega)]; exact HF230.out)
            have HF247 := Lib.hid (show (W16.setCell ⟨w2.heap.size, 6, none⟩ (.int .i64 t)).heap[w2.heap.size]? = some (.cells #[.int .i64 a, .int .i64 b, .int .i64 k, .string x, .string o, .string n, .int .i64 t, .int .i64 0] 37 (0, 0)) by have h := heap_setCell_at (i := 6) (u := .int .i64 t) HF231.out; exact h)
            have HF248 := Lib.hid (show (W16.setCell ⟨w2.heap.size, 6, none⟩ (.int .i64 t)).heap[w2.heap.size + 1]? = some (.cells #[.string Y, .int .i64 (q7 : Int), .int .i64 e7] 70 (0, 0)) by rw [Below.heap_setCell _ _ _ _ (by show w2.heap.size + 1 ≠ w2.heap.size; omega)]; exact HF232.out)
            have HB249 := Lib.hid (HB233.out.setCell (p := ⟨w2.heap.size, 6, none⟩) (by show w.heap.size ≤ w2.heap.size; omega) (.int .i64 t))
            have hc250 : (W16.setCell ⟨w2.heap.size, 6, none⟩ (.int .i64 t)).cell? ⟨w2.heap.size + 1, 0, none⟩ = some (.string Y) := by rw [cell_of_row _ _ _ _ _ _ HF248.out]; rfl
            have hc251 : (W16.setCell ⟨w2.heap.size, 6, none⟩ (.int .i64 t)).cell? ⟨w2.heap.size + 1, 1, none⟩ = some (.int .i64 (q7 : Int)) := by rw [cell_of_row _ _ _ _ _ _ HF248.out]; rfl
            have hc252 : (W16.setCell ⟨w2.heap.size, 6, none⟩ (.int .i64 t)).cell? ⟨w2.heap.size + 1, 2, none⟩ = some (.int .i64 e7) := by rw [cell_of_row _ _ _ _ _ _ HF248.out]; rfl
            have hc253 : (W16.setCell ⟨w2.heap.size, 6, none⟩ (.int .i64 t)).cell? ⟨w2.heap.size, 0, none⟩ = some (.int .i64 a) := by rw [cell_of_row _ _ _ _ _ _ HF247.out]; rfl
            have hc254 : (W16.setCell ⟨w2.heap.size, 6, none⟩ (.int .i64 t)).cell? ⟨w2.heap.size, 1, none⟩ = some (.int .i64 b) := by rw [cell_of_row _ _ _ _ _ _ HF247.out]; rfl
            have hc255 : (W16.setCell ⟨w2.heap.size, 6, none⟩ (.int .i64 t)).cell? ⟨w2.heap.size, 2, none⟩ = some (.int .i64 k) := by rw [cell_of_row _ _ _ _ _ _ HF247.out]; rfl
            have hc256 : (W16.setCell ⟨w2.heap.size, 6, none⟩ (.int .i64 t)).cell? ⟨w2.heap.size, 3, none⟩ = some (.string x) := by rw [cell_of_row _ _ _ _ _ _ HF247.out]; rfl
            have hc257 : (W16.setCell ⟨w2.heap.size, 6, none⟩ (.int .i64 t)).cell? ⟨w2.heap.size, 4, none⟩ = some (.string o) := by rw [cell_of_row _ _ _ _ _ _ HF247.out]; rfl
            have hc258 : (W16.setCell ⟨w2.heap.size, 6, none⟩ (.int .i64 t)).cell? ⟨w2.heap.size, 5, none⟩ = some (.string n) := by rw [cell_of_row _ _ _ _ _ _ HF247.out]; rfl
            have hc259 : (W16.setCell ⟨w2.heap.size, 6, none⟩ (.int .i64 t)).cell? ⟨w2.heap.size, 6, none⟩ = some (.int .i64 t) := by rw [cell_of_row _ _ _ _ _ _ HF247.out]; rfl
            have hc260 : (W16.setCell ⟨w2.heap.size, 6, none⟩ (.int .i64 t)).cell? ⟨w2.heap.size, 7, none⟩ = some (.int .i64 0) := by rw [cell_of_row _ _ _ _ _ _ HF247.out]; rfl
            go_wp2_with fail
            refine (H8.out (W16.setCell ⟨w2.heap.size, 6, none⟩ (.int .i64 t))).mono ?_
            rintro e w17 ⟨rfl, hb17⟩
            clear hc234 hc235 hc236 hc237 hc238 hc239 hc240 hc241 hc242 hc243 hc244 hz245 hc250 hc251 hc252 hc253 hc254 hc255 hc256 hc257 hc258 hc259 hc260
            have HF261 := Lib.hid (blk_below HF246.out hb17)
            have HF262 := Lib.hid (blk_below HF247.out hb17)
            have HF263 := Lib.hid (blk_below HF248.out hb17)
            have HB264 := Lib.hid (HB249.out.trans (hb17.mono HB249.out.size))
            clear hb17 HB249 HF246 HF247 HF248
            go_wp2_with (first
              | refine wpList_store_rowY rfl 70 (.tmp 8) (.tmp 78) rfl (w2.heap.size + 1) #[.string Y, .int .i64 (q8 : Int), .int .i64 0] rfl rfl 70 _ HF263.out (info_scE _ _ _) rfl (one_scE _ _ _) w.heap.size w HB264.out (by omega) ?_)
            intro W18 hbk hoth hbel _
            have HF265 := Lib.hid (blk_oth HF261.out hoth.out (by omega))
            have HF266 := Lib.hid (blk_oth HF262.out hoth.out (by omega))
            have HF267 := Lib.hid hbk.out
            have HB268 := Lib.hid hbel.out
            clear hbk hoth hbel HB264  HF261 HF262 HF263
            have hc269 : W18.cell? ⟨w2.heap.size, 0, none⟩ = some (.int .i64 a) := by rw [cell_of_row _ _ _ _ _ _ HF266.out]; rfl
            have hc270 : W18.cell? ⟨w2.heap.size, 1, none⟩ = some (.int .i64 b) := by rw [cell_of_row _ _ _ _ _ _ HF266.out]; rfl
            have hc271 : W18.cell? ⟨w2.heap.size, 2, none⟩ = some (.int .i64 k) := by rw [cell_of_row _ _ _ _ _ _ HF266.out]; rfl
            have hc272 : W18.cell? ⟨w2.heap.size, 3, none⟩ = some (.string x) := by rw [cell_of_row _ _ _ _ _ _ HF266.out]; rfl
            have hc273 : W18.cell? ⟨w2.heap.size, 4, none⟩ = some (.string o) := by rw [cell_of_row _ _ _ _ _ _ HF266.out]; rfl
            have hc274 : W18.cell? ⟨w2.heap.size, 5, none⟩ = some (.string n) := by rw [cell_of_row _ _ _ _ _ _ HF266.out]; rfl
            have hc275 : W18.cell? ⟨w2.heap.size, 6, none⟩ = some (.int .i64 t) := by rw [cell_of_row _ _ _ _ _ _ HF266.out]; rfl
            have hc276 : W18.cell? ⟨w2.heap.size, 7, none⟩ = some (.int .i64 0) := by rw [cell_of_row _ _ _ _ _ _ HF266.out]; rfl
            have hc277 : W18.cell? ⟨w2.heap.size + 1, 0, none⟩ = some (.string Y) := by rw [cell_of_row _ _ _ _ _ _ HF267.out]; rfl
            have hc278 : W18.cell? ⟨w2.heap.size + 1, 1, none⟩ = some (.int .i64 (q8 : Int)) := by rw [cell_of_row _ _ _ _ _ _ HF267.out]; rfl
            have hc279 : W18.cell? ⟨w2.heap.size + 1, 2, none⟩ = some (.int .i64 0) := by rw [cell_of_row _ _ _ _ _ _ HF267.out]; rfl
            have hz280 : W18.frozen? ⟨w2.heap.size, 7, none⟩ = false := frozen_of_row _ _ _ _ _ HF266.out
            have HF281 := Lib.hid (show (W18.setCell ⟨w2.heap.size, 7, none⟩ (.int .i64 u)).heap[w.heap.size]? = some (.cells #[.int .i64 0, .int .i64 0, .int .i64 0, .string ⟨#[]⟩, .string ⟨#[]⟩, .string ⟨#[]⟩, .int .i64 0, .int .i64 0] 37 (0, 0)) by rw [Below.heap_setCell _ _ _ _ (by show w.heap.size ≠ w2.heap.size; omega)]; exact HF265.out)
            have HF282 := Lib.hid (show (W18.setCell ⟨w2.heap.size, 7, none⟩ (.int .i64 u)).heap[w2.heap.size]? = some (.cells #[.int .i64 a, .int .i64 b, .int .i64 k, .string x, .string o, .string n, .int .i64 t, .int .i64 u] 37 (0, 0)) by have h := heap_setCell_at (i := 7) (u := .int .i64 u) HF266.out; exact h)
            have HF283 := Lib.hid (show (W18.setCell ⟨w2.heap.size, 7, none⟩ (.int .i64 u)).heap[w2.heap.size + 1]? = some (.cells #[.string Y, .int .i64 (q8 : Int), .int .i64 0] 70 (0, 0)) by rw [Below.heap_setCell _ _ _ _ (by show w2.heap.size + 1 ≠ w2.heap.size; omega)]; exact HF267.out)
            have HB284 := Lib.hid (HB268.out.setCell (p := ⟨w2.heap.size, 7, none⟩) (by show w.heap.size ≤ w2.heap.size; omega) (.int .i64 u))
            have hc285 : (W18.setCell ⟨w2.heap.size, 7, none⟩ (.int .i64 u)).cell? ⟨w2.heap.size + 1, 0, none⟩ = some (.string Y) := by rw [cell_of_row _ _ _ _ _ _ HF283.out]; rfl
            have hc286 : (W18.setCell ⟨w2.heap.size, 7, none⟩ (.int .i64 u)).cell? ⟨w2.heap.size + 1, 1, none⟩ = some (.int .i64 (q8 : Int)) := by rw [cell_of_row _ _ _ _ _ _ HF283.out]; rfl
            have hc287 : (W18.setCell ⟨w2.heap.size, 7, none⟩ (.int .i64 u)).cell? ⟨w2.heap.size + 1, 2, none⟩ = some (.int .i64 0) := by rw [cell_of_row _ _ _ _ _ _ HF283.out]; rfl
            have hc288 : (W18.setCell ⟨w2.heap.size, 7, none⟩ (.int .i64 u)).cell? ⟨w2.heap.size, 0, none⟩ = some (.int .i64 a) := by rw [cell_of_row _ _ _ _ _ _ HF282.out]; rfl
            have hc289 : (W18.setCell ⟨w2.heap.size, 7, none⟩ (.int .i64 u)).cell? ⟨w2.heap.size, 1, none⟩ = some (.int .i64 b) := by rw [cell_of_row _ _ _ _ _ _ HF282.out]; rfl
            have hc290 : (W18.setCell ⟨w2.heap.size, 7, none⟩ (.int .i64 u)).cell? ⟨w2.heap.size, 2, none⟩ = some (.int .i64 k) := by rw [cell_of_row _ _ _ _ _ _ HF282.out]; rfl
            have hc291 : (W18.setCell ⟨w2.heap.size, 7, none⟩ (.int .i64 u)).cell? ⟨w2.heap.size, 3, none⟩ = some (.string x) := by rw [cell_of_row _ _ _ _ _ _ HF282.out]; rfl
            have hc292 : (W18.setCell ⟨w2.heap.size, 7, none⟩ (.int .i64 u)).cell? ⟨w2.heap.size, 4, none⟩ = some (.string o) := by rw [cell_of_row _ _ _ _ _ _ HF282.out]; rfl
            have hc293 : (W18.setCell ⟨w2.heap.size, 7, none⟩ (.int .i64 u)).cell? ⟨w2.heap.size, 5, none⟩ = some (.string n) := by rw [cell_of_row _ _ _ _ _ _ HF282.out]; rfl
            have hc294 : (W18.setCell ⟨w2.heap.size, 7, none⟩ (.int .i64 u)).cell? ⟨w2.heap.size, 6, none⟩ = some (.int .i64 t) := by rw [cell_of_row _ _ _ _ _ _ HF282.out]; rfl
            have hc295 : (W18.setCell ⟨w2.heap.size, 7, none⟩ (.int .i64 u)).cell? ⟨w2.heap.size, 7, none⟩ = some (.int .i64 u) := by rw [cell_of_row _ _ _ _ _ _ HF282.out]; rfl
            go_wp2_with fail
            refine (HIS.out (W18.setCell ⟨w2.heap.size, 7, none⟩ (.int .i64 u))).mono ?_
            rintro e w19 ⟨rfl, hb19⟩
            clear hc269 hc270 hc271 hc272 hc273 hc274 hc275 hc276 hc277 hc278 hc279 hz280 hc285 hc286 hc287 hc288 hc289 hc290 hc291 hc292 hc293 hc294 hc295
            have HF296 := Lib.hid (blk_below HF281.out hb19)
            have HF297 := Lib.hid (blk_below HF282.out hb19)
            have HF298 := Lib.hid (blk_below HF283.out hb19)
            have HB299 := Lib.hid (HB284.out.trans (hb19.mono HB284.out.size))
            clear hb19 HB284 HF281 HF282 HF283
            have hc300 : w19.cell? ⟨w2.heap.size, 0, none⟩ = some (.int .i64 a) := by rw [cell_of_row _ _ _ _ _ _ HF297.out]; rfl
            have hc301 : w19.cell? ⟨w2.heap.size, 1, none⟩ = some (.int .i64 b) := by rw [cell_of_row _ _ _ _ _ _ HF297.out]; rfl
            have hc302 : w19.cell? ⟨w2.heap.size, 2, none⟩ = some (.int .i64 k) := by rw [cell_of_row _ _ _ _ _ _ HF297.out]; rfl
            have hc303 : w19.cell? ⟨w2.heap.size, 3, none⟩ = some (.string x) := by rw [cell_of_row _ _ _ _ _ _ HF297.out]; rfl
            have hc304 : w19.cell? ⟨w2.heap.size, 4, none⟩ = some (.string o) := by rw [cell_of_row _ _ _ _ _ _ HF297.out]; rfl
            have hc305 : w19.cell? ⟨w2.heap.size, 5, none⟩ = some (.string n) := by rw [cell_of_row _ _ _ _ _ _ HF297.out]; rfl
            have hc306 : w19.cell? ⟨w2.heap.size, 6, none⟩ = some (.int .i64 t) := by rw [cell_of_row _ _ _ _ _ _ HF297.out]; rfl
            have hc307 : w19.cell? ⟨w2.heap.size, 7, none⟩ = some (.int .i64 u) := by rw [cell_of_row _ _ _ _ _ _ HF297.out]; rfl
            have hc308 : w19.cell? ⟨w2.heap.size + 1, 0, none⟩ = some (.string Y) := by rw [cell_of_row _ _ _ _ _ _ HF298.out]; rfl
            have hc309 : w19.cell? ⟨w2.heap.size + 1, 1, none⟩ = some (.int .i64 (q8 : Int)) := by rw [cell_of_row _ _ _ _ _ _ HF298.out]; rfl
            have hc310 : w19.cell? ⟨w2.heap.size + 1, 2, none⟩ = some (.int .i64 0) := by rw [cell_of_row _ _ _ _ _ _ HF298.out]; rfl
            go_wp2_with fail
            refine (HPU.out w19).mono ?_
            rintro e w20 ⟨rfl, hb20⟩
            clear hc300 hc301 hc302 hc303 hc304 hc305 hc306 hc307 hc308 hc309 hc310
            have HF311 := Lib.hid (blk_below HF296.out hb20)
            have HF312 := Lib.hid (blk_below HF297.out hb20)
            have HF313 := Lib.hid (blk_below HF298.out hb20)
            have HB314 := Lib.hid (HB299.out.trans (hb20.mono HB299.out.size))
            clear hb20 HB299 HF296 HF297 HF298
            go_wp2_with (first
              | refine wpList_store_rowY rfl 37 (.tmp 2) (.tmp 95) rfl (w.heap.size) #[.int .i64 0, .int .i64 0, .int .i64 0, .string ⟨#[]⟩, .string ⟨#[]⟩, .string ⟨#[]⟩, .int .i64 0, .int .i64 0] rfl rfl 37 _ HF311.out (info_rec _ _ _ _ _ _ _ _) rfl (one_rec _ _ _ _ _ _ _ _) w.heap.size w HB314.out (by omega) ?_)
            intro W21 hbk hoth hbel _
            have HF315 := Lib.hid hbk.out
            have HF316 := Lib.hid (blk_oth HF312.out hoth.out (by omega))
            have HF317 := Lib.hid (blk_oth HF313.out hoth.out (by omega))
            have HB318 := Lib.hid hbel.out
            clear hbk hoth hbel HB314  HF311 HF312 HF313
            go_wp2_with fail
            refine bodyPost_ret (results_ctY rfl _ _ (w.heap.size) #[.int .i64 0, .int .i64 0, .int .i64 0, .string ⟨#[]⟩, .string ⟨#[]⟩, .string ⟨#[]⟩, .int .i64 0, .int .i64 0] rfl (run_loadVar_row _ (w.heap.size) 37 37 _ (0, 0) _ HF315.out Tryd.underlying37 rfl (info_rec _ _ _ _ _ _ _ _))) rfl ?_
            exact ⟨rfl, HB318.out⟩
        · have hn1 : (e8 == 0) = false := by rw [beq_eq_false_iff_ne]; exact he
          have hn2 : (e8 != 0) = true := by rw [bne, hn1]; rfl
          clear he hrec HIS HPU
          have HB1 := Lib.hid (Below.refl w.heap.size w)
          go_enter Tryd.func22, Tryd.ntmps22
          go_wp2_with fail
          have HF2 := Lib.hid (blk_new w (.cells #[.int .i64 0, .int .i64 0, .int .i64 0, .string ⟨#[]⟩, .string ⟨#[]⟩, .string ⟨#[]⟩, .int .i64 0, .int .i64 0] 37 (0, 0)))
          have HB3 := Lib.hid (HB1.out.alloc HB1.out.size (.cells #[.int .i64 0, .int .i64 0, .int .i64 0, .string ⟨#[]⟩, .string ⟨#[]⟩, .string ⟨#[]⟩, .int .i64 0, .int .i64 0] 37 (0, 0)))
          clear HB1
          refine (HBR.out (w.alloc (.cells #[.int .i64 0, .int .i64 0, .int .i64 0, .string ⟨#[]⟩, .string ⟨#[]⟩, .string ⟨#[]⟩, .int .i64 0, .int .i64 0] 37 (0, 0)))).mono ?_
          rintro e w1 ⟨rfl, hb1⟩
          have HF4 := Lib.hid (blk_below HF2.out hb1)
          have HB5 := Lib.hid (HB3.out.trans (hb1.mono HB3.out.size))
          clear hb1 HB3 HF2
          go_wp2_with fail
          refine (HOP.out w1).mono ?_
          rintro e w2 ⟨rfl, hb2⟩
          have HF6 := Lib.hid (blk_below HF4.out hb2)
          have HB7 := Lib.hid (HB5.out.trans (hb2.mono HB5.out.size))
          clear hb2 HB5 HF4
          have hk8 : w.heap.size < w2.heap.size := lt_of_block HF6.out
          have HF9 := Lib.hid (blk_alloc HF6.out (.cells #[.int .i64 0, .int .i64 0, .int .i64 0, .string ⟨#[]⟩, .string ⟨#[]⟩, .string ⟨#[]⟩, .int .i64 0, .int .i64 0] 37 (0, 0)))
          have HF10 := Lib.hid (blk_new w2 (.cells #[.int .i64 0, .int .i64 0, .int .i64 0, .string ⟨#[]⟩, .string ⟨#[]⟩, .string ⟨#[]⟩, .int .i64 0, .int .i64 0] 37 (0, 0)))
          have HB11 := Lib.hid (HB7.out.alloc HB7.out.size (.cells #[.int .i64 0, .int .i64 0, .int .i64 0, .string ⟨#[]⟩, .string ⟨#[]⟩, .string ⟨#[]⟩, .int .i64 0, .int .i64 0] 37 (0, 0)))
          clear HB7
          have HF12 := Lib.hid (blk_alloc HF9.out (.cells #[.string Y, .int .i64 0, .int .i64 0] 70 (0, 0)))
          clear HF9
          have HF13 := Lib.hid (blk_alloc HF10.out (.cells #[.string Y, .int .i64 0, .int .i64 0] 70 (0, 0)))
          clear HF10
          have HF14 : Hid (((w2.alloc (.cells #[.int .i64 0, .int .i64 0, .int .i64 0, .string ⟨#[]⟩, .string ⟨#[]⟩, .string ⟨#[]⟩, .int .i64 0, .int .i64 0] 37 (0, 0))).alloc (.cells #[.string Y, .int .i64 0, .int .i64 0] 70 (0, 0))).heap[w2.heap.size + 1]? = some (.cells #[.string Y, .int .i64 0, .int .i64 0] 70 (0, 0))) := Lib.hid (blk_newN (W := (w2.alloc (.cells #[.int .i64 0, .int .i64 0, .int .i64 0, .string ⟨#[]⟩, .string ⟨#[]⟩, .string ⟨#[]⟩, .int .i64 0, .int .i64 0] 37 (0, 0)))) (o := (.cells #[.string Y, .int .i64 0, .int .i64 0] 70 (0, 0))) (by simp))
          have HB15 := Lib.hid (HB11.out.alloc (by have := HB11.out.size; simp at this ⊢ <;> omega) (.cells #[.string Y, .int .i64 0, .int .i64 0] 70 (0, 0)))
          clear HB11
          go_wp2_with fail
          refine (H1.out ((w2.alloc (.cells #[.int .i64 0, .int .i64 0, .int .i64 0, .string ⟨#[]⟩, .string ⟨#[]⟩, .string ⟨#[]⟩, .int .i64 0, .int .i64 0] 37 (0, 0))).alloc (.cells #[.string Y, .int .i64 0, .int .i64 0] 70 (0, 0)))).mono ?_
          rintro e w3 ⟨rfl, hb3⟩
          have HF16 := Lib.hid (blk_below HF12.out hb3)
          have HF17 := Lib.hid (blk_below HF13.out hb3)
          have HF18 := Lib.hid (blk_below HF14.out hb3)
          have HB19 := Lib.hid (HB15.out.trans (hb3.mono HB15.out.size))
          clear hb3 HB15 HF12 HF6 HF13 HF14
          go_wp2_with (first
            | refine wpList_store_rowY rfl 70 (.tmp 8) (.tmp 36) rfl (w2.heap.size + 1) #[.string Y, .int .i64 (q1 : Int), .int .i64 e1] rfl rfl 70 _ HF18.out (info_scE _ _ _) rfl (one_scE _ _ _) w.heap.size w HB19.out (by omega) ?_)
          intro W4 hbk hoth hbel _
          have HF20 := Lib.hid (blk_oth HF16.out hoth.out (by omega))
          have HF21 := Lib.hid (blk_oth HF17.out hoth.out (by omega))
          have HF22 := Lib.hid hbk.out
          have HB23 := Lib.hid hbel.out
          clear hbk hoth hbel HB19  HF16 HF17 HF18
          have hc24 : W4.cell? ⟨w2.heap.size, 0, none⟩ = some (.int .i64 0) := by rw [cell_of_row _ _ _ _ _ _ HF21.out]; rfl
          have hc25 : W4.cell? ⟨w2.heap.size, 1, none⟩ = some (.int .i64 0) := by rw [cell_of_row _ _ _ _ _ _ HF21.out]; rfl
          have hc26 : W4.cell? ⟨w2.heap.size, 2, none⟩ = some (.int .i64 0) := by rw [cell_of_row _ _ _ _ _ _ HF21.out]; rfl
          have hc27 : W4.cell? ⟨w2.heap.size, 3, none⟩ = some (.string ⟨#[]⟩) := by rw [cell_of_row _ _ _ _ _ _ HF21.out]; rfl
          have hc28 : W4.cell? ⟨w2.heap.size, 4, none⟩ = some (.string ⟨#[]⟩) := by rw [cell_of_row _ _ _ _ _ _ HF21.out]; rfl
          have hc29 : W4.cell? ⟨w2.heap.size, 5, none⟩ = some (.string ⟨#[]⟩) := by rw [cell_of_row _ _ _ _ _ _ HF21.out]; rfl
          have hc30 : W4.cell? ⟨w2.heap.size, 6, none⟩ = some (.int .i64 0) := by rw [cell_of_row _ _ _ _ _ _ HF21.out]; rfl
          have hc31 : W4.cell? ⟨w2.heap.size, 7, none⟩ = some (.int .i64 0) := by rw [cell_of_row _ _ _ _ _ _ HF21.out]; rfl
          have hc32 : W4.cell? ⟨w2.heap.size + 1, 0, none⟩ = some (.string Y) := by rw [cell_of_row _ _ _ _ _ _ HF22.out]; rfl
          have hc33 : W4.cell? ⟨w2.heap.size + 1, 1, none⟩ = some (.int .i64 (q1 : Int)) := by rw [cell_of_row _ _ _ _ _ _ HF22.out]; rfl
          have hc34 : W4.cell? ⟨w2.heap.size + 1, 2, none⟩ = some (.int .i64 e1) := by rw [cell_of_row _ _ _ _ _ _ HF22.out]; rfl
          have hz35 : W4.frozen? ⟨w2.heap.size, 0, none⟩ = false := frozen_of_row _ _ _ _ _ HF21.out
          have HF36 := Lib.hid (show (W4.setCell ⟨w2.heap.size, 0, none⟩ (.int .i64 a)).heap[w.heap.size]? = some (.cells #[.int .i64 0, .int .i64 0, .int .i64 0, .string ⟨#[]⟩, .string ⟨#[]⟩, .string ⟨#[]⟩, .int .i64 0, .int .i64 0] 37 (0, 0)) by rw [Below.heap_setCell _ _ _ _ (by show w.heap.size ≠ w2.heap.size; omega)]; exact HF20.out)
          have HF37 := Lib.hid (show (W4.setCell ⟨w2.heap.size, 0, none⟩ (.int .i64 a)).heap[w2.heap.size]? = some (.cells #[.int .i64 a, .int .i64 0, .int .i64 0, .string ⟨#[]⟩, .string ⟨#[]⟩, .string ⟨#[]⟩, .int .i64 0, .int .i64 0] 37 (0, 0)) by have h := heap_setCell_at (i := 0) (u := .int .i64 a) HF21.out; exact h)
          have HF38 := Lib.hid (show (W4.setCell ⟨w2.heap.size, 0, none⟩ (.int .i64 a)).heap[w2.heap.size + 1]? = some (.cells #[.string Y, .int .i64 (q1 : Int), .int .i64 e1] 70 (0, 0)) by rw [Below.heap_setCell _ _ _ _ (by show w2.heap.size + 1 ≠ w2.heap.size; omega)]; exact HF22.out)
          have HB39 := Lib.hid (HB23.out.setCell (p := ⟨w2.heap.size, 0, none⟩) (by show w.heap.size ≤ w2.heap.size; omega) (.int .i64 a))
          have hc40 : (W4.setCell ⟨w2.heap.size, 0, none⟩ (.int .i64 a)).cell? ⟨w2.heap.size + 1, 0, none⟩ = some (.string Y) := by rw [cell_of_row _ _ _ _ _ _ HF38.out]; rfl
          have hc41 : (W4.setCell ⟨w2.heap.size, 0, none⟩ (.int .i64 a)).cell? ⟨w2.heap.size + 1, 1, none⟩ = some (.int .i64 (q1 : Int)) := by rw [cell_of_row _ _ _ _ _ _ HF38.out]; rfl
          have hc42 : (W4.setCell ⟨w2.heap.size, 0, none⟩ (.int .i64 a)).cell? ⟨w2.heap.size + 1, 2, none⟩ = some (.int .i64 e1) := by rw [cell_of_row _ _ _ _ _ _ HF38.out]; rfl
          have hc43 : (W4.setCell ⟨w2.heap.size, 0, none⟩ (.int .i64 a)).cell? ⟨w2.heap.size, 0, none⟩ = some (.int .i64 a) := by rw [cell_of_row _ _ _ _ _ _ HF37.out]; rfl
          have hc44 : (W4.setCell ⟨w2.heap.size, 0, none⟩ (.int .i64 a)).cell? ⟨w2.heap.size, 1, none⟩ = some (.int .i64 0) := by rw [cell_of_row _ _ _ _ _ _ HF37.out]; rfl
          have hc45 : (W4.setCell ⟨w2.heap.size, 0, none⟩ (.int .i64 a)).cell? ⟨w2.heap.size, 2, none⟩ = some (.int .i64 0) := by rw [cell_of_row _ _ _ _ _ _ HF37.out]; rfl
          have hc46 : (W4.setCell ⟨w2.heap.size, 0, none⟩ (.int .i64 a)).cell? ⟨w2.heap.size, 3, none⟩ = some (.string ⟨#[]⟩) := by rw [cell_of_row _ _ _ _ _ _ HF37.out]; rfl
          have hc47 : (W4.setCell ⟨w2.heap.size, 0, none⟩ (.int .i64 a)).cell? ⟨w2.heap.size, 4, none⟩ = some (.string ⟨#[]⟩) := by rw [cell_of_row _ _ _ _ _ _ HF37.out]; rfl
          have hc48 : (W4.setCell ⟨w2.heap.size, 0, none⟩ (.int .i64 a)).cell? ⟨w2.heap.size, 5, none⟩ = some (.string ⟨#[]⟩) := by rw [cell_of_row _ _ _ _ _ _ HF37.out]; rfl
          have hc49 : (W4.setCell ⟨w2.heap.size, 0, none⟩ (.int .i64 a)).cell? ⟨w2.heap.size, 6, none⟩ = some (.int .i64 0) := by rw [cell_of_row _ _ _ _ _ _ HF37.out]; rfl
          have hc50 : (W4.setCell ⟨w2.heap.size, 0, none⟩ (.int .i64 a)).cell? ⟨w2.heap.size, 7, none⟩ = some (.int .i64 0) := by rw [cell_of_row _ _ _ _ _ _ HF37.out]; rfl
          go_wp2_with fail
          refine (H2.out (W4.setCell ⟨w2.heap.size, 0, none⟩ (.int .i64 a))).mono ?_
          rintro e w5 ⟨rfl, hb5⟩
          clear hc24 hc25 hc26 hc27 hc28 hc29 hc30 hc31 hc32 hc33 hc34 hz35 hc40 hc41 hc42 hc43 hc44 hc45 hc46 hc47 hc48 hc49 hc50
          have HF51 := Lib.hid (blk_below HF36.out hb5)
          have HF52 := Lib.hid (blk_below HF37.out hb5)
          have HF53 := Lib.hid (blk_below HF38.out hb5)
          have HB54 := Lib.hid (HB39.out.trans (hb5.mono HB39.out.size))
          clear hb5 HB39 HF36 HF37 HF38
          go_wp2_with (first
            | refine wpList_store_rowY rfl 70 (.tmp 8) (.tmp 42) rfl (w2.heap.size + 1) #[.string Y, .int .i64 (q2 : Int), .int .i64 e2] rfl rfl 70 _ HF53.out (info_scE _ _ _) rfl (one_scE _ _ _) w.heap.size w HB54.out (by omega) ?_)
          intro W6 hbk hoth hbel _
          have HF55 := Lib.hid (blk_oth HF51.out hoth.out (by omega))
          have HF56 := Lib.hid (blk_oth HF52.out hoth.out (by omega))
          have HF57 := Lib.hid hbk.out
          have HB58 := Lib.hid hbel.out
          clear hbk hoth hbel HB54  HF51 HF52 HF53
          have hc59 : W6.cell? ⟨w2.heap.size, 0, none⟩ = some (.int .i64 a) := by rw [cell_of_row _ _ _ _ _ _ HF56.out]; rfl
          have hc60 : W6.cell? ⟨w2.heap.size, 1, none⟩ = some (.int .i64 0) := by rw [cell_of_row _ _ _ _ _ _ HF56.out]; rfl
          have hc61 : W6.cell? ⟨w2.heap.size, 2, none⟩ = some (.int .i64 0) := by rw [cell_of_row _ _ _ _ _ _ HF56.out]; rfl
          have hc62 : W6.cell? ⟨w2.heap.size, 3, none⟩ = some (.string ⟨#[]⟩) := by rw [cell_of_row _ _ _ _ _ _ HF56.out]; rfl
          have hc63 : W6.cell? ⟨w2.heap.size, 4, none⟩ = some (.string ⟨#[]⟩) := by rw [cell_of_row _ _ _ _ _ _ HF56.out]; rfl
          have hc64 : W6.cell? ⟨w2.heap.size, 5, none⟩ = some (.string ⟨#[]⟩) := by rw [cell_of_row _ _ _ _ _ _ HF56.out]; rfl
          have hc65 : W6.cell? ⟨w2.heap.size, 6, none⟩ = some (.int .i64 0) := by rw [cell_of_row _ _ _ _ _ _ HF56.out]; rfl
          have hc66 : W6.cell? ⟨w2.heap.size, 7, none⟩ = some (.int .i64 0) := by rw [cell_of_row _ _ _ _ _ _ HF56.out]; rfl
          have hc67 : W6.cell? ⟨w2.heap.size + 1, 0, none⟩ = some (.string Y) := by rw [cell_of_row _ _ _ _ _ _ HF57.out]; rfl
          have hc68 : W6.cell? ⟨w2.heap.size + 1, 1, none⟩ = some (.int .i64 (q2 : Int)) := by rw [cell_of_row _ _ _ _ _ _ HF57.out]; rfl
          have hc69 : W6.cell? ⟨w2.heap.size + 1, 2, none⟩ = some (.int .i64 e2) := by rw [cell_of_row _ _ _ _ _ _ HF57.out]; rfl
          have hz70 : W6.frozen? ⟨w2.heap.size, 1, none⟩ = false := frozen_of_row _ _ _ _ _ HF56.out
          have HF71 := Lib.hid (show (W6.setCell ⟨w2.heap.size, 1, none⟩ (.int .i64 b)).heap[w.heap.size]? = some (.cells #[.int .i64 0, .int .i64 0, .int .i64 0, .string ⟨#[]⟩, .string ⟨#[]⟩, .string ⟨#[]⟩, .int .i64 0, .int .i64 0] 37 (0, 0)) by rw [Below.heap_setCell _ _ _ _ (by show w.heap.size ≠ w2.heap.size; omega)]; exact HF55.out)
          have HF72 := Lib.hid (show (W6.setCell ⟨w2.heap.size, 1, none⟩ (.int .i64 b)).heap[w2.heap.size]? = some (.cells #[.int .i64 a, .int .i64 b, .int .i64 0, .string ⟨#[]⟩, .string ⟨#[]⟩, .string ⟨#[]⟩, .int .i64 0, .int .i64 0] 37 (0, 0)) by have h := heap_setCell_at (i := 1) (u := .int .i64 b) HF56.out; exact h)
          have HF73 := Lib.hid (show (W6.setCell ⟨w2.heap.size, 1, none⟩ (.int .i64 b)).heap[w2.heap.size + 1]? = some (.cells #[.string Y, .int .i64 (q2 : Int), .int .i64 e2] 70 (0, 0)) by rw [Below.heap_setCell _ _ _ _ (by show w2.heap.size + 1 ≠ w2.heap.size; omega)]; exact HF57.out)
          have HB74 := Lib.hid (HB58.out.setCell (p := ⟨w2.heap.size, 1, none⟩) (by show w.heap.size ≤ w2.heap.size; omega) (.int .i64 b))
          have hc75 : (W6.setCell ⟨w2.heap.size, 1, none⟩ (.int .i64 b)).cell? ⟨w2.heap.size + 1, 0, none⟩ = some (.string Y) := by rw [cell_of_row _ _ _ _ _ _ HF73.out]; rfl
          have hc76 : (W6.setCell ⟨w2.heap.size, 1, none⟩ (.int .i64 b)).cell? ⟨w2.heap.size + 1, 1, none⟩ = some (.int .i64 (q2 : Int)) := by rw [cell_of_row _ _ _ _ _ _ HF73.out]; rfl
          have hc77 : (W6.setCell ⟨w2.heap.size, 1, none⟩ (.int .i64 b)).cell? ⟨w2.heap.size + 1, 2, none⟩ = some (.int .i64 e2) := by rw [cell_of_row _ _ _ _ _ _ HF73.out]; rfl
          have hc78 : (W6.setCell ⟨w2.heap.size, 1, none⟩ (.int .i64 b)).cell? ⟨w2.heap.size, 0, none⟩ = some (.int .i64 a) := by rw [cell_of_row _ _ _ _ _ _ HF72.out]; rfl
          have hc79 : (W6.setCell ⟨w2.heap.size, 1, none⟩ (.int .i64 b)).cell? ⟨w2.heap.size, 1, none⟩ = some (.int .i64 b) := by rw [cell_of_row _ _ _ _ _ _ HF72.out]; rfl
          have hc80 : (W6.setCell ⟨w2.heap.size, 1, none⟩ (.int .i64 b)).cell? ⟨w2.heap.size, 2, none⟩ = some (.int .i64 0) := by rw [cell_of_row _ _ _ _ _ _ HF72.out]; rfl
          have hc81 : (W6.setCell ⟨w2.heap.size, 1, none⟩ (.int .i64 b)).cell? ⟨w2.heap.size, 3, none⟩ = some (.string ⟨#[]⟩) := by rw [cell_of_row _ _ _ _ _ _ HF72.out]; rfl
          have hc82 : (W6.setCell ⟨w2.heap.size, 1, none⟩ (.int .i64 b)).cell? ⟨w2.heap.size, 4, none⟩ = some (.string ⟨#[]⟩) := by rw [cell_of_row _ _ _ _ _ _ HF72.out]; rfl
          have hc83 : (W6.setCell ⟨w2.heap.size, 1, none⟩ (.int .i64 b)).cell? ⟨w2.heap.size, 5, none⟩ = some (.string ⟨#[]⟩) := by rw [cell_of_row _ _ _ _ _ _ HF72.out]; rfl
          have hc84 : (W6.setCell ⟨w2.heap.size, 1, none⟩ (.int .i64 b)).cell? ⟨w2.heap.size, 6, none⟩ = some (.int .i64 0) := by rw [cell_of_row _ _ _ _ _ _ HF72.out]; rfl
          have hc85 : (W6.setCell ⟨w2.heap.size, 1, none⟩ (.int .i64 b)).cell? ⟨w2.heap.size, 7, none⟩ = some (.int .i64 0) := by rw [cell_of_row _ _ _ _ _ _ HF72.out]; rfl
          go_wp2_with fail
          refine (H3.out (W6.setCell ⟨w2.heap.size, 1, none⟩ (.int .i64 b))).mono ?_
          rintro e w7 ⟨rfl, hb7⟩
          clear hc59 hc60 hc61 hc62 hc63 hc64 hc65 hc66 hc67 hc68 hc69 hz70 hc75 hc76 hc77 hc78 hc79 hc80 hc81 hc82 hc83 hc84 hc85
          have HF86 := Lib.hid (blk_below HF71.out hb7)
          have HF87 := Lib.hid (blk_below HF72.out hb7)
          have HF88 := Lib.hid (blk_below HF73.out hb7)
          have HB89 := Lib.hid (HB74.out.trans (hb7.mono HB74.out.size))
          clear hb7 HB74 HF71 HF72 HF73
          go_wp2_with (first
            | refine wpList_store_rowY rfl 70 (.tmp 8) (.tmp 48) rfl (w2.heap.size + 1) #[.string Y, .int .i64 (q3 : Int), .int .i64 e3] rfl rfl 70 _ HF88.out (info_scE _ _ _) rfl (one_scE _ _ _) w.heap.size w HB89.out (by omega) ?_)
          intro W8 hbk hoth hbel _
          have HF90 := Lib.hid (blk_oth HF86.out hoth.out (by omega))
          have HF91 := Lib.hid (blk_oth HF87.out hoth.out (by omega))
          have HF92 := Lib.hid hbk.out
          have HB93 := Lib.hid hbel.out
          clear hbk hoth hbel HB89  HF86 HF87 HF88
          have hc94 : W8.cell? ⟨w2.heap.size, 0, none⟩ = some (.int .i64 a) := by rw [cell_of_row _ _ _ _ _ _ HF91.out]; rfl
          have hc95 : W8.cell? ⟨w2.heap.size, 1, none⟩ = some (.int .i64 b) := by rw [cell_of_row _ _ _ _ _ _ HF91.out]; rfl
          have hc96 : W8.cell? ⟨w2.heap.size, 2, none⟩ = some (.int .i64 0) := by rw [cell_of_row _ _ _ _ _ _ HF91.out]; rfl
          have hc97 : W8.cell? ⟨w2.heap.size, 3, none⟩ = some (.string ⟨#[]⟩) := by rw [cell_of_row _ _ _ _ _ _ HF91.out]; rfl
          have hc98 : W8.cell? ⟨w2.heap.size, 4, none⟩ = some (.string ⟨#[]⟩) := by rw [cell_of_row _ _ _ _ _ _ HF91.out]; rfl
          have hc99 : W8.cell? ⟨w2.heap.size, 5, none⟩ = some (.string ⟨#[]⟩) := by rw [cell_of_row _ _ _ _ _ _ HF91.out]; rfl
          have hc100 : W8.cell? ⟨w2.heap.size, 6, none⟩ = some (.int .i64 0) := by rw [cell_of_row _ _ _ _ _ _ HF91.out]; rfl
          have hc101 : W8.cell? ⟨w2.heap.size, 7, none⟩ = some (.int .i64 0) := by rw [cell_of_row _ _ _ _ _ _ HF91.out]; rfl
          have hc102 : W8.cell? ⟨w2.heap.size + 1, 0, none⟩ = some (.string Y) := by rw [cell_of_row _ _ _ _ _ _ HF92.out]; rfl
          have hc103 : W8.cell? ⟨w2.heap.size + 1, 1, none⟩ = some (.int .i64 (q3 : Int)) := by rw [cell_of_row _ _ _ _ _ _ HF92.out]; rfl
          have hc104 : W8.cell? ⟨w2.heap.size + 1, 2, none⟩ = some (.int .i64 e3) := by rw [cell_of_row _ _ _ _ _ _ HF92.out]; rfl
          have hz105 : W8.frozen? ⟨w2.heap.size, 2, none⟩ = false := frozen_of_row _ _ _ _ _ HF91.out
          have HF106 := Lib.hid (show (W8.setCell ⟨w2.heap.size, 2, none⟩ (.int .i64 k)).heap[w.heap.size]? = some (.cells #[.int .i64 0, .int .i64 0, .int .i64 0, .string ⟨#[]⟩, .string ⟨#[]⟩, .string ⟨#[]⟩, .int .i64 0, .int .i64 0] 37 (0, 0)) by rw [Below.heap_setCell _ _ _ _ (by show w.heap.size ≠ w2.heap.size; omega)]; exact HF90.out)
          have HF107 := Lib.hid (show (W8.setCell ⟨w2.heap.size, 2, none⟩ (.int .i64 k)).heap[w2.heap.size]? = some (.cells #[.int .i64 a, .int .i64 b, .int .i64 k, .string ⟨#[]⟩, .string ⟨#[]⟩, .string ⟨#[]⟩, .int .i64 0, .int .i64 0] 37 (0, 0)) by have h := heap_setCell_at (i := 2) (u := .int .i64 k) HF91.out; exact h)
          have HF108 := Lib.hid (show (W8.setCell ⟨w2.heap.size, 2, none⟩ (.int .i64 k)).heap[w2.heap.size + 1]? = some (.cells #[.string Y, .int .i64 (q3 : Int), .int .i64 e3] 70 (0, 0)) by rw [Below.heap_setCell _ _ _ _ (by show w2.heap.size + 1 ≠ w2.heap.size; omega)]; exact HF92.out)
          have HB109 := Lib.hid (HB93.out.setCell (p := ⟨w2.heap.size, 2, none⟩) (by show w.heap.size ≤ w2.heap.size; omega) (.int .i64 k))
          have hc110 : (W8.setCell ⟨w2.heap.size, 2, none⟩ (.int .i64 k)).cell? ⟨w2.heap.size + 1, 0, none⟩ = some (.string Y) := by rw [cell_of_row _ _ _ _ _ _ HF108.out]; rfl
          have hc111 : (W8.setCell ⟨w2.heap.size, 2, none⟩ (.int .i64 k)).cell? ⟨w2.heap.size + 1, 1, none⟩ = some (.int .i64 (q3 : Int)) := by rw [cell_of_row _ _ _ _ _ _ HF108.out]; rfl
          have hc112 : (W8.setCell ⟨w2.heap.size, 2, none⟩ (.int .i64 k)).cell? ⟨w2.heap.size + 1, 2, none⟩ = some (.int .i64 e3) := by rw [cell_of_row _ _ _ _ _ _ HF108.out]; rfl
          have hc113 : (W8.setCell ⟨w2.heap.size, 2, none⟩ (.int .i64 k)).cell? ⟨w2.heap.size, 0, none⟩ = some (.int .i64 a) := by rw [cell_of_row _ _ _ _ _ _ HF107.out]; rfl
          have hc114 : (W8.setCell ⟨w2.heap.size, 2, none⟩ (.int .i64 k)).cell? ⟨w2.heap.size, 1, none⟩ = some (.int .i64 b) := by rw [cell_of_row _ _ _ _ _ _ HF107.out]; rfl
          have hc115 : (W8.setCell ⟨w2.heap.size, 2, none⟩ (.int .i64 k)).cell? ⟨w2.heap.size, 2, none⟩ = some (.int .i64 k) := by rw [cell_of_row _ _ _ _ _ _ HF107.out]; rfl
          have hc116 : (W8.setCell ⟨w2.heap.size, 2, none⟩ (.int .i64 k)).cell? ⟨w2.heap.size, 3, none⟩ = some (.string ⟨#[]⟩) := by rw [cell_of_row _ _ _ _ _ _ HF107.out]; rfl
          have hc117 : (W8.setCell ⟨w2.heap.size, 2, none⟩ (.int .i64 k)).cell? ⟨w2.heap.size, 4, none⟩ = some (.string ⟨#[]⟩) := by rw [cell_of_row _ _ _ _ _ _ HF107.out]; rfl
          have hc118 : (W8.setCell ⟨w2.heap.size, 2, none⟩ (.int .i64 k)).cell? ⟨w2.heap.size, 5, none⟩ = some (.string ⟨#[]⟩) := by rw [cell_of_row _ _ _ _ _ _ HF107.out]; rfl
          have hc119 : (W8.setCell ⟨w2.heap.size, 2, none⟩ (.int .i64 k)).cell? ⟨w2.heap.size, 6, none⟩ = some (.int .i64 0) := by rw [cell_of_row _ _ _ _ _ _ HF107.out]; rfl
          have hc120 : (W8.setCell ⟨w2.heap.size, 2, none⟩ (.int .i64 k)).cell? ⟨w2.heap.size, 7, none⟩ = some (.int .i64 0) := by rw [cell_of_row _ _ _ _ _ _ HF107.out]; rfl
          go_wp2_with fail
          refine (H4.out (W8.setCell ⟨w2.heap.size, 2, none⟩ (.int .i64 k))).mono ?_
          rintro e w9 ⟨rfl, hb9⟩
          clear hc94 hc95 hc96 hc97 hc98 hc99 hc100 hc101 hc102 hc103 hc104 hz105 hc110 hc111 hc112 hc113 hc114 hc115 hc116 hc117 hc118 hc119 hc120
          have HF121 := Lib.hid (blk_below HF106.out hb9)
          have HF122 := Lib.hid (blk_below HF107.out hb9)
          have HF123 := Lib.hid (blk_below HF108.out hb9)
          have HB124 := Lib.hid (HB109.out.trans (hb9.mono HB109.out.size))
          clear hb9 HB109 HF106 HF107 HF108
          go_wp2_with (first
            | refine wpList_store_rowY rfl 70 (.tmp 8) (.tmp 54) rfl (w2.heap.size + 1) #[.string Y, .int .i64 (q4 : Int), .int .i64 e4] rfl rfl 70 _ HF123.out (info_scE _ _ _) rfl (one_scE _ _ _) w.heap.size w HB124.out (by omega) ?_)
          intro W10 hbk hoth hbel _
          have HF125 := Lib.hid (blk_oth HF121.out hoth.out (by omega))
          have HF126 := Lib.hid (blk_oth HF122.out hoth.out (by omega))
          have HF127 := Lib.hid hbk.out
          have HB128 := Lib.hid hbel.out
          clear hbk hoth hbel HB124  HF121 HF122 HF123
          have hc129 : W10.cell? ⟨w2.heap.size, 0, none⟩ = some (.int .i64 a) := by rw [cell_of_row _ _ _ _ _ _ HF126.out]; rfl
          have hc130 : W10.cell? ⟨w2.heap.size, 1, none⟩ = some (.int .i64 b) := by rw [cell_of_row _ _ _ _ _ _ HF126.out]; rfl
          have hc131 : W10.cell? ⟨w2.heap.size, 2, none⟩ = some (.int .i64 k) := by rw [cell_of_row _ _ _ _ _ _ HF126.out]; rfl
          have hc132 : W10.cell? ⟨w2.heap.size, 3, none⟩ = some (.string ⟨#[]⟩) := by rw [cell_of_row _ _ _ _ _ _ HF126.out]; rfl
          have hc133 : W10.cell? ⟨w2.heap.size, 4, none⟩ = some (.string ⟨#[]⟩) := by rw [cell_of_row _ _ _ _ _ _ HF126.out]; rfl
          have hc134 : W10.cell? ⟨w2.heap.size, 5, none⟩ = some (.string ⟨#[]⟩) := by rw [cell_of_row _ _ _ _ _ _ HF126.out]; rfl
          have hc135 : W10.cell? ⟨w2.heap.size, 6, none⟩ = some (.int .i64 0) := by rw [cell_of_row _ _ _ _ _ _ HF126.out]; rfl
          have hc136 : W10.cell? ⟨w2.heap.size, 7, none⟩ = some (.int .i64 0) := by rw [cell_of_row _ _ _ _ _ _ HF126.out]; rfl
          have hc137 : W10.cell? ⟨w2.heap.size + 1, 0, none⟩ = some (.string Y) := by rw [cell_of_row _ _ _ _ _ _ HF127.out]; rfl
          have hc138 : W10.cell? ⟨w2.heap.size + 1, 1, none⟩ = some (.int .i64 (q4 : Int)) := by rw [cell_of_row _ _ _ _ _ _ HF127.out]; rfl
          have hc139 : W10.cell? ⟨w2.heap.size + 1, 2, none⟩ = some (.int .i64 e4) := by rw [cell_of_row _ _ _ _ _ _ HF127.out]; rfl
          have hz140 : W10.frozen? ⟨w2.heap.size, 3, none⟩ = false := frozen_of_row _ _ _ _ _ HF126.out
          have HF141 := Lib.hid (show (W10.setCell ⟨w2.heap.size, 3, none⟩ (.string x)).heap[w.heap.size]? = some (.cells #[.int .i64 0, .int .i64 0, .int .i64 0, .string ⟨#[]⟩, .string ⟨#[]⟩, .string ⟨#[]⟩, .int .i64 0, .int .i64 0] 37 (0, 0)) by rw [Below.heap_setCell _ _ _ _ (by show w.heap.size ≠ w2.heap.size; omega)]; exact HF125.out)
          have HF142 := Lib.hid (show (W10.setCell ⟨w2.heap.size, 3, none⟩ (.string x)).heap[w2.heap.size]? = some (.cells #[.int .i64 a, .int .i64 b, .int .i64 k, .string x, .string ⟨#[]⟩, .string ⟨#[]⟩, .int .i64 0, .int .i64 0] 37 (0, 0)) by have h := heap_setCell_at (i := 3) (u := .string x) HF126.out; exact h)
          have HF143 := Lib.hid (show (W10.setCell ⟨w2.heap.size, 3, none⟩ (.string x)).heap[w2.heap.size + 1]? = some (.cells #[.string Y, .int .i64 (q4 : Int), .int .i64 e4] 70 (0, 0)) by rw [Below.heap_setCell _ _ _ _ (by show w2.heap.size + 1 ≠ w2.heap.size; omega)]; exact HF127.out)
          have HB144 := Lib.hid (HB128.out.setCell (p := ⟨w2.heap.size, 3, none⟩) (by show w.heap.size ≤ w2.heap.size; omega) (.string x))
          have hc145 : (W10.setCell ⟨w2.heap.size, 3, none⟩ (.string x)).cell? ⟨w2.heap.size + 1, 0, none⟩ = some (.string Y) := by rw [cell_of_row _ _ _ _ _ _ HF143.out]; rfl
          have hc146 : (W10.setCell ⟨w2.heap.size, 3, none⟩ (.string x)).cell? ⟨w2.heap.size + 1, 1, none⟩ = some (.int .i64 (q4 : Int)) := by rw [cell_of_row _ _ _ _ _ _ HF143.out]; rfl
          have hc147 : (W10.setCell ⟨w2.heap.size, 3, none⟩ (.string x)).cell? ⟨w2.heap.size + 1, 2, none⟩ = some (.int .i64 e4) := by rw [cell_of_row _ _ _ _ _ _ HF143.out]; rfl
          have hc148 : (W10.setCell ⟨w2.heap.size, 3, none⟩ (.string x)).cell? ⟨w2.heap.size, 0, none⟩ = some (.int .i64 a) := by rw [cell_of_row _ _ _ _ _ _ HF142.out]; rfl
          have hc149 : (W10.setCell ⟨w2.heap.size, 3, none⟩ (.string x)).cell? ⟨w2.heap.size, 1, none⟩ = some (.int .i64 b) := by rw [cell_of_row _ _ _ _ _ _ HF142.out]; rfl
          have hc150 : (W10.setCell ⟨w2.heap.size, 3, none⟩ (.string x)).cell? ⟨w2.heap.size, 2, none⟩ = some (.int .i64 k) := by rw [cell_of_row _ _ _ _ _ _ HF142.out]; rfl
          have hc151 : (W10.setCell ⟨w2.heap.size, 3, none⟩ (.string x)).cell? ⟨w2.heap.size, 3, none⟩ = some (.string x) := by rw [cell_of_row _ _ _ _ _ _ HF142.out]; rfl
          have hc152 : (W10.setCell ⟨w2.heap.size, 3, none⟩ (.string x)).cell? ⟨w2.heap.size, 4, none⟩ = some (.string ⟨#[]⟩) := by rw [cell_of_row _ _ _ _ _ _ HF142.out]; rfl
          have hc153 : (W10.setCell ⟨w2.heap.size, 3, none⟩ (.string x)).cell? ⟨w2.heap.size, 5, none⟩ = some (.string ⟨#[]⟩) := by rw [cell_of_row _ _ _ _ _ _ HF142.out]; rfl
          have hc154 : (W10.setCell ⟨w2.heap.size, 3, none⟩ (.string x)).cell? ⟨w2.heap.size, 6, none⟩ = some (.int .i64 0) := by rw [cell_of_row _ _ _ _ _ _ HF142.out]; rfl
          have hc155 : (W10.setCell ⟨w2.heap.size, 3, none⟩ (.string x)).cell? ⟨w2.heap.size, 7, none⟩ = some (.int .i64 0) := by rw [cell_of_row _ _ _ _ _ _ HF142.out]; rfl
          go_wp2_with fail
          refine (H5.out (W10.setCell ⟨w2.heap.size, 3, none⟩ (.string x))).mono ?_
          rintro e w11 ⟨rfl, hb11⟩
          clear hc129 hc130 hc131 hc132 hc133 hc134 hc135 hc136 hc137 hc138 hc139 hz140 hc145 hc146 hc147 hc148 hc149 hc150 hc151 hc152 hc153 hc154 hc155
          have HF156 := Lib.hid (blk_below HF141.out hb11)
          have HF157 := Lib.hid (blk_below HF142.out hb11)
          have HF158 := Lib.hid (blk_below HF143.out hb11)
          have HB159 := Lib.hid (HB144.out.trans (hb11.mono HB144.out.size))
          clear hb11 HB144 HF141 HF142 HF143
          go_wp2_with (first
            | refine wpList_store_rowY rfl 70 (.tmp 8) (.tmp 60) rfl (w2.heap.size + 1) #[.string Y, .int .i64 (q5 : Int), .int .i64 e5] rfl rfl 70 _ HF158.out (info_scE _ _ _) rfl (one_scE _ _ _) w.heap.size w HB159.out (by omega) ?_)
          intro W12 hbk hoth hbel _
          have HF160 := Lib.hid (blk_oth HF156.out hoth.out (by omega))
          have HF161 := Lib.hid (blk_oth HF157.out hoth.out (by omega))
          have HF162 := Lib.hid hbk.out
          have HB163 := Lib.hid hbel.out
          clear hbk hoth hbel HB159  HF156 HF157 HF158
          have hc164 : W12.cell? ⟨w2.heap.size, 0, none⟩ = some (.int .i64 a) := by rw [cell_of_row _ _ _ _ _ _ HF161.out]; rfl
          have hc165 : W12.cell? ⟨w2.heap.size, 1, none⟩ = some (.int .i64 b) := by rw [cell_of_row _ _ _ _ _ _ HF161.out]; rfl
          have hc166 : W12.cell? ⟨w2.heap.size, 2, none⟩ = some (.int .i64 k) := by rw [cell_of_row _ _ _ _ _ _ HF161.out]; rfl
          have hc167 : W12.cell? ⟨w2.heap.size, 3, none⟩ = some (.string x) := by rw [cell_of_row _ _ _ _ _ _ HF161.out]; rfl
          have hc168 : W12.cell? ⟨w2.heap.size, 4, none⟩ = some (.string ⟨#[]⟩) := by rw [cell_of_row _ _ _ _ _ _ HF161.out]; rfl
          have hc169 : W12.cell? ⟨w2.heap.size, 5, none⟩ = some (.string ⟨#[]⟩) := by rw [cell_of_row _ _ _ _ _ _ HF161.out]; rfl
          have hc170 : W12.cell? ⟨w2.heap.size, 6, none⟩ = some (.int .i64 0) := by rw [cell_of_row _ _ _ _ _ _ HF161.out]; rfl
          have hc171 : W12.cell? ⟨w2.heap.size, 7, none⟩ = some (.int .i64 0) := by rw [cell_of_row _ _ _ _ _ _ HF161.out]; rfl
          have hc172 : W12.cell? ⟨w2.heap.size + 1, 0, none⟩ = some (.string Y) := by rw [cell_of_row _ _ _ _ _ _ HF162.out]; rfl
          have hc173 : W12.cell? ⟨w2.heap.size + 1, 1, none⟩ = some (.int .i64 (q5 : Int)) := by rw [cell_of_row _ _ _ _ _ _ HF162.out]; rfl
          have hc174 : W12.cell? ⟨w2.heap.size + 1, 2, none⟩ = some (.int .i64 e5) := by rw [cell_of_row _ _ _ _ _ _ HF162.out]; rfl
          have hz175 : W12.frozen? ⟨w2.heap.size, 4, none⟩ = false := frozen_of_row _ _ _ _ _ HF161.out
          have HF176 := Lib.hid (show (W12.setCell ⟨w2.heap.size, 4, none⟩ (.string o)).heap[w.heap.size]? = some (.cells #[.int .i64 0, .int .i64 0, .int .i64 0, .string ⟨#[]⟩, .string ⟨#[]⟩, .string ⟨#[]⟩, .int .i64 0, .int .i64 0] 37 (0, 0)) by rw [Below.heap_setCell _ _ _ _ (by show w.heap.size ≠ w2.heap.size; omega)]; exact HF160.out)
          have HF177 := Lib.hid (show (W12.setCell ⟨w2.heap.size, 4, none⟩ (.string o)).heap[w2.heap.size]? = some (.cells #[.int .i64 a, .int .i64 b, .int .i64 k, .string x, .string o, .string ⟨#[]⟩, .int .i64 0, .int .i64 0] 37 (0, 0)) by have h := heap_setCell_at (i := 4) (u := .string o) HF161.out; exact h)
          have HF178 := Lib.hid (show (W12.setCell ⟨w2.heap.size, 4, none⟩ (.string o)).heap[w2.heap.size + 1]? = some (.cells #[.string Y, .int .i64 (q5 : Int), .int .i64 e5] 70 (0, 0)) by rw [Below.heap_setCell _ _ _ _ (by show w2.heap.size + 1 ≠ w2.heap.size; omega)]; exact HF162.out)
          have HB179 := Lib.hid (HB163.out.setCell (p := ⟨w2.heap.size, 4, none⟩) (by show w.heap.size ≤ w2.heap.size; omega) (.string o))
          have hc180 : (W12.setCell ⟨w2.heap.size, 4, none⟩ (.string o)).cell? ⟨w2.heap.size + 1, 0, none⟩ = some (.string Y) := by rw [cell_of_row _ _ _ _ _ _ HF178.out]; rfl
          have hc181 : (W12.setCell ⟨w2.heap.size, 4, none⟩ (.string o)).cell? ⟨w2.heap.size + 1, 1, none⟩ = some (.int .i64 (q5 : Int)) := by rw [cell_of_row _ _ _ _ _ _ HF178.out]; rfl
          have hc182 : (W12.setCell ⟨w2.heap.size, 4, none⟩ (.string o)).cell? ⟨w2.heap.size + 1, 2, none⟩ = some (.int .i64 e5) := by rw [cell_of_row _ _ _ _ _ _ HF178.out]; rfl
          have hc183 : (W12.setCell ⟨w2.heap.size, 4, none⟩ (.string o)).cell? ⟨w2.heap.size, 0, none⟩ = some (.int .i64 a) := by rw [cell_of_row _ _ _ _ _ _ HF177.out]; rfl
          have hc184 : (W12.setCell ⟨w2.heap.size, 4, none⟩ (.string o)).cell? ⟨w2.heap.size, 1, none⟩ = some (.int .i64 b) := by rw [cell_of_row _ _ _ _ _ _ HF177.out]; rfl
          have hc185 : (W12.setCell ⟨w2.heap.size, 4, none⟩ (.string o)).cell? ⟨w2.heap.size, 2, none⟩ = some (.int .i64 k) := by rw [cell_of_row _ _ _ _ _ _ HF177.out]; rfl
          have hc186 : (W12.setCell ⟨w2.heap.size, 4, none⟩ (.string o)).cell? ⟨w2.heap.size, 3, none⟩ = some (.string x) := by rw [cell_of_row _ _ _ _ _ _ HF177.out]; rfl
          have hc187 : (W12.setCell ⟨w2.heap.size, 4, none⟩ (.string o)).cell? ⟨w2.heap.size, 4, none⟩ = some (.string o) := by rw [cell_of_row _ _ _ _ _ _ HF177.out]; rfl
          have hc188 : (W12.setCell ⟨w2.heap.size, 4, none⟩ (.string o)).cell? ⟨w2.heap.size, 5, none⟩ = some (.string ⟨#[]⟩) := by rw [cell_of_row _ _ _ _ _ _ HF177.out]; rfl
          have hc189 : (W12.setCell ⟨w2.heap.size, 4, none⟩ (.string o)).cell? ⟨w2.heap.size, 6, none⟩ = some (.int .i64 0) := by rw [cell_of_row _ _ _ _ _ _ HF177.out]; rfl
          have hc190 : (W12.setCell ⟨w2.heap.size, 4, none⟩ (.string o)).cell? ⟨w2.heap.size, 7, none⟩ = some (.int .i64 0) := by rw [cell_of_row _ _ _ _ _ _ HF177.out]; rfl
          go_wp2_with fail
          refine (H6.out (W12.setCell ⟨w2.heap.size, 4, none⟩ (.string o))).mono ?_
          rintro e w13 ⟨rfl, hb13⟩
          clear hc164 hc165 hc166 hc167 hc168 hc169 hc170 hc171 hc172 hc173 hc174 hz175 hc180 hc181 hc182 hc183 hc184 hc185 hc186 hc187 hc188 hc189 hc190
          have HF191 := Lib.hid (blk_below HF176.out hb13)
          have HF192 := Lib.hid (blk_below HF177.out hb13)
          have HF193 := Lib.hid (blk_below HF178.out hb13)
          have HB194 := Lib.hid (HB179.out.trans (hb13.mono HB179.out.size))
          clear hb13 HB179 HF176 HF177 HF178
          go_wp2_with (first
            | refine wpList_store_rowY rfl 70 (.tmp 8) (.tmp 66) rfl (w2.heap.size + 1) #[.string Y, .int .i64 (q6 : Int), .int .i64 e6] rfl rfl 70 _ HF193.out (info_scE _ _ _) rfl (one_scE _ _ _) w.heap.size w HB194.out (by omega) ?_)
          intro W14 hbk hoth hbel _
          have HF195 := Lib.hid (blk_oth HF191.out hoth.out (by omega))
          have HF196 := Lib.hid (blk_oth HF192.out hoth.out (by omega))
          have HF197 := Lib.hid hbk.out
          have HB198 := Lib.hid hbel.out
          clear hbk hoth hbel HB194  HF191 HF192 HF193
          have hc199 : W14.cell? ⟨w2.heap.size, 0, none⟩ = some (.int .i64 a) := by rw [cell_of_row _ _ _ _ _ _ HF196.out]; rfl
          have hc200 : W14.cell? ⟨w2.heap.size, 1, none⟩ = some (.int .i64 b) := by rw [cell_of_row _ _ _ _ _ _ HF196.out]; rfl
          have hc201 : W14.cell? ⟨w2.heap.size, 2, none⟩ = some (.int .i64 k) := by rw [cell_of_row _ _ _ _ _ _ HF196.out]; rfl
          have hc202 : W14.cell? ⟨w2.heap.size, 3, none⟩ = some (.string x) := by rw [cell_of_row _ _ _ _ _ _ HF196.out]; rfl
          have hc203 : W14.cell? ⟨w2.heap.size, 4, none⟩ = some (.string o) := by rw [cell_of_row _ _ _ _ _ _ HF196.out]; rfl
          have hc204 : W14.cell? ⟨w2.heap.size, 5, none⟩ = some (.string ⟨#[]⟩) := by rw [cell_of_row _ _ _ _ _ _ HF196.out]; rfl
          have hc205 : W14.cell? ⟨w2.heap.size, 6, none⟩ = some (.int .i64 0) := by rw [cell_of_row _ _ _ _ _ _ HF196.out]; rfl
          have hc206 : W14.cell? ⟨w2.heap.size, 7, none⟩ = some (.int .i64 0) := by rw [cell_of_row _ _ _ _ _ _ HF196.out]; rfl
          have hc207 : W14.cell? ⟨w2.heap.size + 1, 0, none⟩ = some (.string Y) := by rw [cell_of_row _ _ _ _ _ _ HF197.out]; rfl
          have hc208 : W14.cell? ⟨w2.heap.size + 1, 1, none⟩ = some (.int .i64 (q6 : Int)) := by rw [cell_of_row _ _ _ _ _ _ HF197.out]; rfl
          have hc209 : W14.cell? ⟨w2.heap.size + 1, 2, none⟩ = some (.int .i64 e6) := by rw [cell_of_row _ _ _ _ _ _ HF197.out]; rfl
          have hz210 : W14.frozen? ⟨w2.heap.size, 5, none⟩ = false := frozen_of_row _ _ _ _ _ HF196.out
          have HF211 := Lib.hid (show (W14.setCell ⟨w2.heap.size, 5, none⟩ (.string n)).heap[w.heap.size]? = some (.cells #[.int .i64 0, .int .i64 0, .int .i64 0, .string ⟨#[]⟩, .string ⟨#[]⟩, .string ⟨#[]⟩, .int .i64 0, .int .i64 0] 37 (0, 0)) by rw [Below.heap_setCell _ _ _ _ (by show w.heap.size ≠ w2.heap.size; omega)]; exact HF195.out)
          have HF212 := Lib.hid (show (W14.setCell ⟨w2.heap.size, 5, none⟩ (.string n)).heap[w2.heap.size]? = some (.cells #[.int .i64 a, .int .i64 b, .int .i64 k, .string x, .string o, .string n, .int .i64 0, .int .i64 0] 37 (0, 0)) by have h := heap_setCell_at (i := 5) (u := .string n) HF196.out; exact h)
          have HF213 := Lib.hid (show (W14.setCell ⟨w2.heap.size, 5, none⟩ (.string n)).heap[w2.heap.size + 1]? = some (.cells #[.string Y, .int .i64 (q6 : Int), .int .i64 e6] 70 (0, 0)) by rw [Below.heap_setCell _ _ _ _ (by show w2.heap.size + 1 ≠ w2.heap.size; omega)]; exact HF197.out)
          have HB214 := Lib.hid (HB198.out.setCell (p := ⟨w2.heap.size, 5, none⟩) (by show w.heap.size ≤ w2.heap.size; omega) (.string n))
          have hc215 : (W14.setCell ⟨w2.heap.size, 5, none⟩ (.string n)).cell? ⟨w2.heap.size + 1, 0, none⟩ = some (.string Y) := by rw [cell_of_row _ _ _ _ _ _ HF213.out]; rfl
          have hc216 : (W14.setCell ⟨w2.heap.size, 5, none⟩ (.string n)).cell? ⟨w2.heap.size + 1, 1, none⟩ = some (.int .i64 (q6 : Int)) := by rw [cell_of_row _ _ _ _ _ _ HF213.out]; rfl
          have hc217 : (W14.setCell ⟨w2.heap.size, 5, none⟩ (.string n)).cell? ⟨w2.heap.size + 1, 2, none⟩ = some (.int .i64 e6) := by rw [cell_of_row _ _ _ _ _ _ HF213.out]; rfl
          have hc218 : (W14.setCell ⟨w2.heap.size, 5, none⟩ (.string n)).cell? ⟨w2.heap.size, 0, none⟩ = some (.int .i64 a) := by rw [cell_of_row _ _ _ _ _ _ HF212.out]; rfl
          have hc219 : (W14.setCell ⟨w2.heap.size, 5, none⟩ (.string n)).cell? ⟨w2.heap.size, 1, none⟩ = some (.int .i64 b) := by rw [cell_of_row _ _ _ _ _ _ HF212.out]; rfl
          have hc220 : (W14.setCell ⟨w2.heap.size, 5, none⟩ (.string n)).cell? ⟨w2.heap.size, 2, none⟩ = some (.int .i64 k) := by rw [cell_of_row _ _ _ _ _ _ HF212.out]; rfl
          have hc221 : (W14.setCell ⟨w2.heap.size, 5, none⟩ (.string n)).cell? ⟨w2.heap.size, 3, none⟩ = some (.string x) := by rw [cell_of_row _ _ _ _ _ _ HF212.out]; rfl
          have hc222 : (W14.setCell ⟨w2.heap.size, 5, none⟩ (.string n)).cell? ⟨w2.heap.size, 4, none⟩ = some (.string o) := by rw [cell_of_row _ _ _ _ _ _ HF212.out]; rfl
          have hc223 : (W14.setCell ⟨w2.heap.size, 5, none⟩ (.string n)).cell? ⟨w2.heap.size, 5, none⟩ = some (.string n) := by rw [cell_of_row _ _ _ _ _ _ HF212.out]; rfl
          have hc224 : (W14.setCell ⟨w2.heap.size, 5, none⟩ (.string n)).cell? ⟨w2.heap.size, 6, none⟩ = some (.int .i64 0) := by rw [cell_of_row _ _ _ _ _ _ HF212.out]; rfl
          have hc225 : (W14.setCell ⟨w2.heap.size, 5, none⟩ (.string n)).cell? ⟨w2.heap.size, 7, none⟩ = some (.int .i64 0) := by rw [cell_of_row _ _ _ _ _ _ HF212.out]; rfl
          go_wp2_with fail
          refine (H7.out (W14.setCell ⟨w2.heap.size, 5, none⟩ (.string n))).mono ?_
          rintro e w15 ⟨rfl, hb15⟩
          clear hc199 hc200 hc201 hc202 hc203 hc204 hc205 hc206 hc207 hc208 hc209 hz210 hc215 hc216 hc217 hc218 hc219 hc220 hc221 hc222 hc223 hc224 hc225
          have HF226 := Lib.hid (blk_below HF211.out hb15)
          have HF227 := Lib.hid (blk_below HF212.out hb15)
          have HF228 := Lib.hid (blk_below HF213.out hb15)
          have HB229 := Lib.hid (HB214.out.trans (hb15.mono HB214.out.size))
          clear hb15 HB214 HF211 HF212 HF213
          go_wp2_with (first
            | refine wpList_store_rowY rfl 70 (.tmp 8) (.tmp 72) rfl (w2.heap.size + 1) #[.string Y, .int .i64 (q7 : Int), .int .i64 e7] rfl rfl 70 _ HF228.out (info_scE _ _ _) rfl (one_scE _ _ _) w.heap.size w HB229.out (by omega) ?_)
          intro W16 hbk hoth hbel _
          have HF230 := Lib.hid (blk_oth HF226.out hoth.out (by omega))
          have HF231 := Lib.hid (blk_oth HF227.out hoth.out (by omega))
          have HF232 := Lib.hid hbk.out
          have HB233 := Lib.hid hbel.out
          clear hbk hoth hbel HB229  HF226 HF227 HF228
          have hc234 : W16.cell? ⟨w2.heap.size, 0, none⟩ = some (.int .i64 a) := by rw [cell_of_row _ _ _ _ _ _ HF231.out]; rfl
          have hc235 : W16.cell? ⟨w2.heap.size, 1, none⟩ = some (.int .i64 b) := by rw [cell_of_row _ _ _ _ _ _ HF231.out]; rfl
          have hc236 : W16.cell? ⟨w2.heap.size, 2, none⟩ = some (.int .i64 k) := by rw [cell_of_row _ _ _ _ _ _ HF231.out]; rfl
          have hc237 : W16.cell? ⟨w2.heap.size, 3, none⟩ = some (.string x) := by rw [cell_of_row _ _ _ _ _ _ HF231.out]; rfl
          have hc238 : W16.cell? ⟨w2.heap.size, 4, none⟩ = some (.string o) := by rw [cell_of_row _ _ _ _ _ _ HF231.out]; rfl
          have hc239 : W16.cell? ⟨w2.heap.size, 5, none⟩ = some (.string n) := by rw [cell_of_row _ _ _ _ _ _ HF231.out]; rfl
          have hc240 : W16.cell? ⟨w2.heap.size, 6, none⟩ = some (.int .i64 0) := by rw [cell_of_row _ _ _ _ _ _ HF231.out]; rfl
          have hc241 : W16.cell? ⟨w2.heap.size, 7, none⟩ = some (.int .i64 0) := by rw [cell_of_row _ _ _ _ _ _ HF231.out]; rfl
          have hc242 : W16.cell? ⟨w2.heap.size + 1, 0, none⟩ = some (.string Y) := by rw [cell_of_row _ _ _ _ _ _ HF232.out]; rfl
          have hc243 : W16.cell? ⟨w2.heap.size + 1, 1, none⟩ = some (.int .i64 (q7 : Int)) := by rw [cell_of_row _ _ _ _ _ _ HF232.out]; rfl
          have hc244 : W16.cell? ⟨w2.heap.size + 1, 2, none⟩ = some (.int .i64 e7) := by rw [cell_of_row _ _ _ _ _ _ HF232.out]; rfl
          have hz245 : W16.frozen? ⟨w2.heap.size, 6, none⟩ = false := frozen_of_row _ _ _ _ _ HF231.out
          have HF246 := Lib.hid (show (W16.setCell ⟨w2.heap.size, 6, none⟩ (.int .i64 t)).heap[w.heap.size]? = some (.cells #[.int .i64 0, .int .i64 0, .int .i64 0, .string ⟨#[]⟩, .string ⟨#[]⟩, .string ⟨#[]⟩, .int .i64 0, .int .i64 0] 37 (0, 0)) by rw [Below.heap_setCell _ _ _ _ (by show w.heap.size ≠ w2.heap.size; omega)]; exact HF230.out)
          have HF247 := Lib.hid (show (W16.setCell ⟨w2.heap.size, 6, none⟩ (.int .i64 t)).heap[w2.heap.size]? = some (.cells #[.int .i64 a, .int .i64 b, .int .i64 k, .string x, .string o, .string n, .int .i64 t, .int .i64 0] 37 (0, 0)) by have h := heap_setCell_at (i := 6) (u := .int .i64 t) HF231.out; exact h)
          have HF248 := Lib.hid (show (W16.setCell ⟨w2.heap.size, 6, none⟩ (.int .i64 t)).heap[w2.heap.size + 1]? = some (.cells #[.string Y, .int .i64 (q7 : Int), .int .i64 e7] 70 (0, 0)) by rw [Below.heap_setCell _ _ _ _ (by show w2.heap.size + 1 ≠ w2.heap.size; omega)]; exact HF232.out)
          have HB249 := Lib.hid (HB233.out.setCell (p := ⟨w2.heap.size, 6, none⟩) (by show w.heap.size ≤ w2.heap.size; omega) (.int .i64 t))
          have hc250 : (W16.setCell ⟨w2.heap.size, 6, none⟩ (.int .i64 t)).cell? ⟨w2.heap.size + 1, 0, none⟩ = some (.string Y) := by rw [cell_of_row _ _ _ _ _ _ HF248.out]; rfl
          have hc251 : (W16.setCell ⟨w2.heap.size, 6, none⟩ (.int .i64 t)).cell? ⟨w2.heap.size + 1, 1, none⟩ = some (.int .i64 (q7 : Int)) := by rw [cell_of_row _ _ _ _ _ _ HF248.out]; rfl
          have hc252 : (W16.setCell ⟨w2.heap.size, 6, none⟩ (.int .i64 t)).cell? ⟨w2.heap.size + 1, 2, none⟩ = some (.int .i64 e7) := by rw [cell_of_row _ _ _ _ _ _ HF248.out]; rfl
          have hc253 : (W16.setCell ⟨w2.heap.size, 6, none⟩ (.int .i64 t)).cell? ⟨w2.heap.size, 0, none⟩ = some (.int .i64 a) := by rw [cell_of_row _ _ _ _ _ _ HF247.out]; rfl
          have hc254 : (W16.setCell ⟨w2.heap.size, 6, none⟩ (.int .i64 t)).cell? ⟨w2.heap.size, 1, none⟩ = some (.int .i64 b) := by rw [cell_of_row _ _ _ _ _ _ HF247.out]; rfl
          have hc255 : (W16.setCell ⟨w2.heap.size, 6, none⟩ (.int .i64 t)).cell? ⟨w2.heap.size, 2, none⟩ = some (.int .i64 k) := by rw [cell_of_row _ _ _ _ _ _ HF247.out]; rfl
          have hc256 : (W16.setCell ⟨w2.heap.size, 6, none⟩ (.int .i64 t)).cell? ⟨w2.heap.size, 3, none⟩ = some (.string x) := by rw [cell_of_row _ _ _ _ _ _ HF247.out]; rfl
          have hc257 : (W16.setCell ⟨w2.heap.size, 6, none⟩ (.int .i64 t)).cell? ⟨w2.heap.size, 4, none⟩ = some (.string o) := by rw [cell_of_row _ _ _ _ _ _ HF247.out]; rfl
          have hc258 : (W16.setCell ⟨w2.heap.size, 6, none⟩ (.int .i64 t)).cell? ⟨w2.heap.size, 5, none⟩ = some (.string n) := by rw [cell_of_row _ _ _ _ _ _ HF247.out]; rfl
          have hc259 : (W16.setCell ⟨w2.heap.size, 6, none⟩ (.int .i64 t)).cell? ⟨w2.heap.size, 6, none⟩ = some (.int .i64 t) := by rw [cell_of_row _ _ _ _ _ _ HF247.out]; rfl
          have hc260 : (W16.setCell ⟨w2.heap.size, 6, none⟩ (.int .i64 t)).cell? ⟨w2.heap.size, 7, none⟩ = some (.int .i64 0) := by rw [cell_of_row _ _ _ _ _ _ HF247.out]; rfl
          go_wp2_with fail
          refine (H8.out (W16.setCell ⟨w2.heap.size, 6, none⟩ (.int .i64 t))).mono ?_
          rintro e w17 ⟨rfl, hb17⟩
          clear hc234 hc235 hc236 hc237 hc238 hc239 hc240 hc241 hc242 hc243 hc244 hz245 hc250 hc251 hc252 hc253 hc254 hc255 hc256 hc257 hc258 hc259 hc260
          have HF261 := Lib.hid (blk_below HF246.out hb17)
          have HF262 := Lib.hid (blk_below HF247.out hb17)
          have HF263 := Lib.hid (blk_below HF248.out hb17)
          have HB264 := Lib.hid (HB249.out.trans (hb17.mono HB249.out.size))
          clear hb17 HB249 HF246 HF247 HF248
          go_wp2_with (first
            | refine wpList_store_rowY rfl 70 (.tmp 8) (.tmp 78) rfl (w2.heap.size + 1) #[.string Y, .int .i64 (q8 : Int), .int .i64 e8] rfl rfl 70 _ HF263.out (info_scE _ _ _) rfl (one_scE _ _ _) w.heap.size w HB264.out (by omega) ?_)
          intro W18 hbk hoth hbel _
          have HF265 := Lib.hid (blk_oth HF261.out hoth.out (by omega))
          have HF266 := Lib.hid (blk_oth HF262.out hoth.out (by omega))
          have HF267 := Lib.hid hbk.out
          have HB268 := Lib.hid hbel.out
          clear hbk hoth hbel HB264  HF261 HF262 HF263
          have hc269 : W18.cell? ⟨w2.heap.size, 0, none⟩ = some (.int .i64 a) := by rw [cell_of_row _ _ _ _ _ _ HF266.out]; rfl
          have hc270 : W18.cell? ⟨w2.heap.size, 1, none⟩ = some (.int .i64 b) := by rw [cell_of_row _ _ _ _ _ _ HF266.out]; rfl
          have hc271 : W18.cell? ⟨w2.heap.size, 2, none⟩ = some (.int .i64 k) := by rw [cell_of_row _ _ _ _ _ _ HF266.out]; rfl
          have hc272 : W18.cell? ⟨w2.heap.size, 3, none⟩ = some (.string x) := by rw [cell_of_row _ _ _ _ _ _ HF266.out]; rfl
          have hc273 : W18.cell? ⟨w2.heap.size, 4, none⟩ = some (.string o) := by rw [cell_of_row _ _ _ _ _ _ HF266.out]; rfl
          have hc274 : W18.cell? ⟨w2.heap.size, 5, none⟩ = some (.string n) := by rw [cell_of_row _ _ _ _ _ _ HF266.out]; rfl
          have hc275 : W18.cell? ⟨w2.heap.size, 6, none⟩ = some (.int .i64 t) := by rw [cell_of_row _ _ _ _ _ _ HF266.out]; rfl
          have hc276 : W18.cell? ⟨w2.heap.size, 7, none⟩ = some (.int .i64 0) := by rw [cell_of_row _ _ _ _ _ _ HF266.out]; rfl
          have hc277 : W18.cell? ⟨w2.heap.size + 1, 0, none⟩ = some (.string Y) := by rw [cell_of_row _ _ _ _ _ _ HF267.out]; rfl
          have hc278 : W18.cell? ⟨w2.heap.size + 1, 1, none⟩ = some (.int .i64 (q8 : Int)) := by rw [cell_of_row _ _ _ _ _ _ HF267.out]; rfl
          have hc279 : W18.cell? ⟨w2.heap.size + 1, 2, none⟩ = some (.int .i64 e8) := by rw [cell_of_row _ _ _ _ _ _ HF267.out]; rfl
          have hz280 : W18.frozen? ⟨w2.heap.size, 7, none⟩ = false := frozen_of_row _ _ _ _ _ HF266.out
          have HF281 := Lib.hid (show (W18.setCell ⟨w2.heap.size, 7, none⟩ (.int .i64 u)).heap[w.heap.size]? = some (.cells #[.int .i64 0, .int .i64 0, .int .i64 0, .string ⟨#[]⟩, .string ⟨#[]⟩, .string ⟨#[]⟩, .int .i64 0, .int .i64 0] 37 (0, 0)) by rw [Below.heap_setCell _ _ _ _ (by show w.heap.size ≠ w2.heap.size; omega)]; exact HF265.out)
          have HF282 := Lib.hid (show (W18.setCell ⟨w2.heap.size, 7, none⟩ (.int .i64 u)).heap[w2.heap.size]? = some (.cells #[.int .i64 a, .int .i64 b, .int .i64 k, .string x, .string o, .string n, .int .i64 t, .int .i64 u] 37 (0, 0)) by have h := heap_setCell_at (i := 7) (u := .int .i64 u) HF266.out; exact h)
          have HF283 := Lib.hid (show (W18.setCell ⟨w2.heap.size, 7, none⟩ (.int .i64 u)).heap[w2.heap.size + 1]? = some (.cells #[.string Y, .int .i64 (q8 : Int), .int .i64 e8] 70 (0, 0)) by rw [Below.heap_setCell _ _ _ _ (by show w2.heap.size + 1 ≠ w2.heap.size; omega)]; exact HF267.out)
          have HB284 := Lib.hid (HB268.out.setCell (p := ⟨w2.heap.size, 7, none⟩) (by show w.heap.size ≤ w2.heap.size; omega) (.int .i64 u))
          have hc285 : (W18.setCell ⟨w2.heap.size, 7, none⟩ (.int .i64 u)).cell? ⟨w2.heap.size + 1, 0, none⟩ = some (.string Y) := by rw [cell_of_row _ _ _ _ _ _ HF283.out]; rfl
          have hc286 : (W18.setCell ⟨w2.heap.size, 7, none⟩ (.int .i64 u)).cell? ⟨w2.heap.size + 1, 1, none⟩ = some (.int .i64 (q8 : Int)) := by rw [cell_of_row _ _ _ _ _ _ HF283.out]; rfl
          have hc287 : (W18.setCell ⟨w2.heap.size, 7, none⟩ (.int .i64 u)).cell? ⟨w2.heap.size + 1, 2, none⟩ = some (.int .i64 e8) := by rw [cell_of_row _ _ _ _ _ _ HF283.out]; rfl
          have hc288 : (W18.setCell ⟨w2.heap.size, 7, none⟩ (.int .i64 u)).cell? ⟨w2.heap.size, 0, none⟩ = some (.int .i64 a) := by rw [cell_of_row _ _ _ _ _ _ HF282.out]; rfl
          have hc289 : (W18.setCell ⟨w2.heap.size, 7, none⟩ (.int .i64 u)).cell? ⟨w2.heap.size, 1, none⟩ = some (.int .i64 b) := by rw [cell_of_row _ _ _ _ _ _ HF282.out]; rfl
          have hc290 : (W18.setCell ⟨w2.heap.size, 7, none⟩ (.int .i64 u)).cell? ⟨w2.heap.size, 2, none⟩ = some (.int .i64 k) := by rw [cell_of_row _ _ _ _ _ _ HF282.out]; rfl
          have hc291 : (W18.setCell ⟨w2.heap.size, 7, none⟩ (.int .i64 u)).cell? ⟨w2.heap.size, 3, none⟩ = some (.string x) := by rw [cell_of_row _ _ _ _ _ _ HF282.out]; rfl
          have hc292 : (W18.setCell ⟨w2.heap.size, 7, none⟩ (.int .i64 u)).cell? ⟨w2.heap.size, 4, none⟩ = some (.string o) := by rw [cell_of_row _ _ _ _ _ _ HF282.out]; rfl
          have hc293 : (W18.setCell ⟨w2.heap.size, 7, none⟩ (.int .i64 u)).cell? ⟨w2.heap.size, 5, none⟩ = some (.string n) := by rw [cell_of_row _ _ _ _ _ _ HF282.out]; rfl
          have hc294 : (W18.setCell ⟨w2.heap.size, 7, none⟩ (.int .i64 u)).cell? ⟨w2.heap.size, 6, none⟩ = some (.int .i64 t) := by rw [cell_of_row _ _ _ _ _ _ HF282.out]; rfl
          have hc295 : (W18.setCell ⟨w2.heap.size, 7, none⟩ (.int .i64 u)).cell? ⟨w2.heap.size, 7, none⟩ = some (.int .i64 u) := by rw [cell_of_row _ _ _ _ _ _ HF282.out]; rfl
          go_wp2_with (first
            | refine wpList_store_rowY rfl 37 (.tmp 2) (.tmp 95) rfl (w.heap.size) #[.int .i64 0, .int .i64 0, .int .i64 0, .string ⟨#[]⟩, .string ⟨#[]⟩, .string ⟨#[]⟩, .int .i64 0, .int .i64 0] rfl rfl 37 _ HF281.out (info_rec _ _ _ _ _ _ _ _) rfl (one_rec _ _ _ _ _ _ _ _) w.heap.size w HB284.out (by omega) ?_)
          intro W19 hbk hoth hbel _
          clear hc269 hc270 hc271 hc272 hc273 hc274 hc275 hc276 hc277 hc278 hc279 hz280 hc285 hc286 hc287 hc288 hc289 hc290 hc291 hc292 hc293 hc294 hc295
          have HF296 := Lib.hid hbk.out
          have HF297 := Lib.hid (blk_oth HF282.out hoth.out (by omega))
          have HF298 := Lib.hid (blk_oth HF283.out hoth.out (by omega))
          have HB299 := Lib.hid hbel.out
          clear hbk hoth hbel HB284  HF281 HF282 HF283
          go_wp2_with fail
          refine bodyPost_ret (results_ctY rfl _ _ (w.heap.size) #[.int .i64 0, .int .i64 0, .int .i64 0, .string ⟨#[]⟩, .string ⟨#[]⟩, .string ⟨#[]⟩, .int .i64 0, .int .i64 0] rfl (run_loadVar_row _ (w.heap.size) 37 37 _ (0, 0) _ HF296.out Tryd.underlying37 rfl (info_rec _ _ _ _ _ _ _ _))) rfl ?_
          exact ⟨rfl, HB299.out⟩
end Go.Proofs.YtpiafgdbjpfcaaaDoor
