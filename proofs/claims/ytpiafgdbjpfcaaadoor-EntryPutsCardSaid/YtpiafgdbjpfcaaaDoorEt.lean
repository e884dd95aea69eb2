/- The contract of entry.Take over this translation: of a record's sector that record, of any other text none. Conditions: texts of at most a thousand bytes; the table of crc. -/
import Derived.Test.YtpiafgdbjpfcaaaDoorEp
import Derived.Test.YtpiafgdbjpfcaaaDoorEr
namespace Go.Proofs.YtpiafgdbjpfcaaaDoor
open Go.RowKit Vi Cm

theorem lstE_no {a b : ByteArray} (h : a ≠ b) : (a.toList == b.data.toList) = false := by
  rw [beq_eq_false_iff_ne, Lib.toList_data]
  exact fun e => h (ba_ext e)
def recV (a b k : Int) (x o n : ByteArray) (t u : Int) : Array Value := #[.int .i64 a, .int .i64 b, .int .i64 k, .string x, .string o, .string n, .int .i64 t, .int .i64 u]
def recZ : Array Value := #[.int .i64 0, .int .i64 0, .int .i64 0, .string ⟨#[]⟩, .string ⟨#[]⟩, .string ⟨#[]⟩, .int .i64 0, .int .i64 0]
set_option maxHeartbeats 4000000 in
set_option maxRecDepth 100000 in
theorem etake_yes (a b k : Int) (x o n : ByteArray) (t u : Int) (w : World) (hT : Tab w) (h : rok a b k x o n t u = true) :
    Calls Tryd.prog 21 #[.string (recS a b k x o n t u)] w fun e w' => e = .returned (.tuple #[.agg (recV a b k x o n t u), .int .i64 0]) ∧ Below w.heap.size w w' := by
  obtain ⟨f1, f2⟩ := rec_front h
  have hz := rec_size h
  have HT := Lib.hid hT
  have bd := rok_bd h
  have bz := bodyR_size h
  have HBR := Lib.hid (fun W : World => bare_any (recS a b k x o n t u) W (by omega))
  unfold bareV at HBR
  rw [f1, if_pos rfl, if_pos rfl, f2] at HBR
  have hsz := sealH_size (bodyR a b k x o n t u)
  have HOP := Lib.hid (fun (W : World) (g : Tab W) => open_any (sealH (bodyR a b k x o n t u)) W g (by omega))
  rw [opened_yesY _ (seal_is (bodyR a b k x o n t u)).1, (seal_is (bodyR a b k x o n t u)).2] at HOP
  have hfx := rec_fix h
  obtain ⟨q1, q2, q3, q4, q5, q6, q7, q8, h1, h2, h3, h4, h5, h6, h7, h8, h9⟩ := rec_reads h (bodyR a b k x o n t u) 1 (fun a' b' k' t' u' => bodyR_tail a' b' k' t' u') 4294967295 4095 2 12 32 32 524288 4294967296 (by omega) (by omega) (by omega) (by omega) (by omega) (by omega) (by omega) (by omega) (by omega) (by omega) (by omega) (by omega) (by omega) (by omega) (by omega) (by omega)
  have HFX := Lib.hid (fun (W : World) (B : Nat) (g : Sc W B true (bodyR a b k x o n t u) 0 0) => fixU W B (bodyR a b k x o n t u) 0 0 1 (by omega) (by omega) g)
  rw [hfx] at HFX
  have HRD := Lib.hid (fun (W : World) (B : Nat) (g : Sc W B true (bodyR a b k x o n t u) 1 0) => eread_any W B (bodyR a b k x o n t u) 1 q1 q2 q3 q4 q5 q6 q7 q8 0 0 0 0 0 0 0 0 0 a b k x o n t u (by omega) (by omega) g h1 h2 h3 h4 h5 h6 h7 h8)
  have l8 : q8 ≤ (bodyR a b k x o n t u).size := by
    have l1 := Rd.num_le (bodyR a b k x o n t u) 1 0 4294967295 (by omega); rw [h1] at l1
    have l2 := Rd.num_le (bodyR a b k x o n t u) q1 0 4095 l1; rw [h2] at l2
    have l3 := Rd.num_le (bodyR a b k x o n t u) q2 0 2 l2; rw [h3] at l3
    have l4 := Rd.text_le (bodyR a b k x o n t u) q3 0 12 l3; rw [h4] at l4
    have l5 := Rd.text_le (bodyR a b k x o n t u) q4 0 32 l4; rw [h5] at l5
    have l6 := Rd.text_le (bodyR a b k x o n t u) q5 0 32 l5; rw [h6] at l6
    have l7 := Rd.num_le (bodyR a b k x o n t u) q6 0 524288 l6; rw [h7] at l7
    have l8 := Rd.num_le (bodyR a b k x o n t u) q7 0 4294967296 l7; rw [h8] at l8
    exact l8
  have HEN := Lib.hid (fun (W : World) (B : Nat) (g : Sc W B true (bodyR a b k x o n t u) q8 0) => finU W B (bodyR a b k x o n t u) q8 0 (by omega) l8 g)
  rw [h9] at HEN
  have HCK := Lib.hid (fun W : World => rcheck_any a b k x o n t u W (by unfold maxLen; omega))
  rw [← errR_yes h] at HCK
  unfold recV
  generalize sealH (bodyR a b k x o n t u) = U at HBR HOP
  generalize recS a b k x o n t u = S at HBR
  generalize bodyR a b k x o n t u = X at HOP HFX HRD HEN
  clear f1 f2 hz bd bz hsz hfx h1 h2 h3 h4 h5 h6 h7 h8 h9 l8 h hT
  have HB1 := Lib.hid (Below.refl w.heap.size w)
  go_enter Tryd.func21, Tryd.ntmps21
  go_wp2_with fail
  have HF2 := Lib.hid (blk_new w (.cells #[.int .i64 0, .int .i64 0, .int .i64 0, .string ⟨#[]⟩, .string ⟨#[]⟩, .string ⟨#[]⟩, .int .i64 0, .int .i64 0] 37 (0, 0)))
  have HB3 := Lib.hid (HB1.out.alloc HB1.out.size (.cells #[.int .i64 0, .int .i64 0, .int .i64 0, .string ⟨#[]⟩, .string ⟨#[]⟩, .string ⟨#[]⟩, .int .i64 0, .int .i64 0] 37 (0, 0)))
  clear HB1
  refine (HBR.out (w.alloc (.cells #[.int .i64 0, .int .i64 0, .int .i64 0, .string ⟨#[]⟩, .string ⟨#[]⟩, .string ⟨#[]⟩, .int .i64 0, .int .i64 0] 37 (0, 0)))).mono ?_
  rintro e w1 ⟨rfl, hb1⟩
  have HF4 := Lib.hid (blk_below HF2.out hb1)
  have HB5 := Lib.hid (HB3.out.trans (hb1.mono HB3.out.size))
  clear hb1 HB3 HF2
  go_wp2_with fail
  refine (HOP.out w1 (HT.out.later HB5.out)).mono ?_
  rintro e w2 ⟨rfl, hb2⟩
  have HF6 := Lib.hid (blk_below HF4.out hb2)
  have HB7 := Lib.hid (HB5.out.trans (hb2.mono HB5.out.size))
  clear hb2 HB5 HF4
  go_wp2_with fail
  refine (new_any _ w2).mono ?_
  rintro e w3 ⟨rfl, hs, hb⟩
  obtain ⟨B, hBe⟩ : ∃ B, B = w2.heap.size := ⟨_, rfl⟩
  rw [← hBe] at hs
  have HF8 := Lib.hid (blk_below HF6.out hb)
  have hk9 : w.heap.size < B := by rw [hBe]; exact lt_of_block HF6.out
  have HB10 := Lib.hid (HB7.out.trans (hb.mono HB7.out.size))
  have hBw : w.heap.size ≤ B := by rw [hBe]; exact HB7.out.size
  have HBE := Lib.hid hBe
  have HS11 := Lib.hid hs
  clear hb hs hBe HB7 HF6
  rw [← HBE.out]
  go_wp2_with fail
  refine (HFX.out w3 _ HS11.out).mono ?_
  rintro e w4 ⟨rfl, hs, hk⟩
  have HF12 := Lib.hid (blk_but HF8.out hk (by omega))
  have HB13 := Lib.hid (But.below HB10.out hk hBw HB10.out.size)
  have HS14 := Lib.hid hs
  clear hs hk HB10 HS11 HF8
  go_wp2_with fail
  refine (HRD.out w4 _ HS14.out).mono ?_
  rintro e w5 ⟨rfl, hs, hk⟩
  have HF15 := Lib.hid (blk_but HF12.out hk (by omega))
  have HB16 := Lib.hid (But.below HB13.out hk hBw HB13.out.size)
  have HS17 := Lib.hid hs
  clear hs hk HB13 HS14 HF12
  have hk18 : B < w5.heap.size := HS17.out.lt
  have HF19 := Lib.hid (blk_alloc HF15.out (.cells #[.int .i64 a, .int .i64 b, .int .i64 k, .string x, .string o, .string n, .int .i64 t, .int .i64 u] 37 (0, 0)))
  have HF20 := Lib.hid (blk_new w5 (.cells #[.int .i64 a, .int .i64 b, .int .i64 k, .string x, .string o, .string n, .int .i64 t, .int .i64 u] 37 (0, 0)))
  have HB21 := Lib.hid (HB16.out.alloc HB16.out.size (.cells #[.int .i64 a, .int .i64 b, .int .i64 k, .string x, .string o, .string n, .int .i64 t, .int .i64 u] 37 (0, 0)))
  clear HB16
  have HS22 := Lib.hid (HS17.out.alloc (.cells #[.int .i64 a, .int .i64 b, .int .i64 k, .string x, .string o, .string n, .int .i64 t, .int .i64 u] 37 (0, 0)))
  clear HS17
  go_wp2_with fail
  refine (HEN.out (w5.alloc (.cells #[.int .i64 a, .int .i64 b, .int .i64 k, .string x, .string o, .string n, .int .i64 t, .int .i64 u] 37 (0, 0))) _ HS22.out).mono ?_
  rintro e w6 ⟨rfl, hs, hk⟩
  have HF23 := Lib.hid (blk_but HF19.out hk (by omega))
  have HF24 := Lib.hid (blk_but HF20.out hk (by omega))
  have HB25 := Lib.hid (But.below HB21.out hk hBw HB21.out.size)
  have HS26 := Lib.hid hs
  clear hs hk HB21 HS22 HF19 HF15 HF20
  have hc27 : w6.cell? ⟨w5.heap.size, 0, none⟩ = some (.int .i64 a) := by rw [cell_of_row _ _ _ _ _ _ HF24.out]; rfl
  have hc28 : w6.cell? ⟨w5.heap.size, 1, none⟩ = some (.int .i64 b) := by rw [cell_of_row _ _ _ _ _ _ HF24.out]; rfl
  have hc29 : w6.cell? ⟨w5.heap.size, 2, none⟩ = some (.int .i64 k) := by rw [cell_of_row _ _ _ _ _ _ HF24.out]; rfl
  have hc30 : w6.cell? ⟨w5.heap.size, 3, none⟩ = some (.string x) := by rw [cell_of_row _ _ _ _ _ _ HF24.out]; rfl
  have hc31 : w6.cell? ⟨w5.heap.size, 4, none⟩ = some (.string o) := by rw [cell_of_row _ _ _ _ _ _ HF24.out]; rfl
  have hc32 : w6.cell? ⟨w5.heap.size, 5, none⟩ = some (.string n) := by rw [cell_of_row _ _ _ _ _ _ HF24.out]; rfl
  have hc33 : w6.cell? ⟨w5.heap.size, 6, none⟩ = some (.int .i64 t) := by rw [cell_of_row _ _ _ _ _ _ HF24.out]; rfl
  have hc34 : w6.cell? ⟨w5.heap.size, 7, none⟩ = some (.int .i64 u) := by rw [cell_of_row _ _ _ _ _ _ HF24.out]; rfl
  go_wp2_with fail
  refine (HCK.out w6).mono ?_
  rintro e w7 ⟨rfl, hb7⟩
  clear hc27 hc28 hc29 hc30 hc31 hc32 hc33 hc34
  have HF35 := Lib.hid (blk_below HF23.out hb7)
  have HF36 := Lib.hid (blk_below HF24.out hb7)
  have HB37 := Lib.hid (HB25.out.trans (hb7.mono HB25.out.size))
  have HS38 := Lib.hid (HS26.out.kept (hb7.block B HS26.out.lt))
  clear hb7 HB25 HS26 HF23 HF24
  have hc39 : w7.cell? ⟨w5.heap.size, 0, none⟩ = some (.int .i64 a) := by rw [cell_of_row _ _ _ _ _ _ HF36.out]; rfl
  have hc40 : w7.cell? ⟨w5.heap.size, 1, none⟩ = some (.int .i64 b) := by rw [cell_of_row _ _ _ _ _ _ HF36.out]; rfl
  have hc41 : w7.cell? ⟨w5.heap.size, 2, none⟩ = some (.int .i64 k) := by rw [cell_of_row _ _ _ _ _ _ HF36.out]; rfl
  have hc42 : w7.cell? ⟨w5.heap.size, 3, none⟩ = some (.string x) := by rw [cell_of_row _ _ _ _ _ _ HF36.out]; rfl
  have hc43 : w7.cell? ⟨w5.heap.size, 4, none⟩ = some (.string o) := by rw [cell_of_row _ _ _ _ _ _ HF36.out]; rfl
  have hc44 : w7.cell? ⟨w5.heap.size, 5, none⟩ = some (.string n) := by rw [cell_of_row _ _ _ _ _ _ HF36.out]; rfl
  have hc45 : w7.cell? ⟨w5.heap.size, 6, none⟩ = some (.int .i64 t) := by rw [cell_of_row _ _ _ _ _ _ HF36.out]; rfl
  have hc46 : w7.cell? ⟨w5.heap.size, 7, none⟩ = some (.int .i64 u) := by rw [cell_of_row _ _ _ _ _ _ HF36.out]; rfl
  go_wp2_with (first
    | refine wpList_store_rowY rfl 37 (.tmp 2) (.tmp 44) rfl (w.heap.size) #[.int .i64 a, .int .i64 b, .int .i64 k, .string x, .string o, .string n, .int .i64 t, .int .i64 u] rfl rfl 37 _ HF35.out (info_rec _ _ _ _ _ _ _ _) rfl (one_rec _ _ _ _ _ _ _ _) w.heap.size w HB37.out (by omega) ?_
    | refine wpList_load_row rfl 37 (.tmp 9) rfl (w5.heap.size) rfl 37 #[.int .i64 a, .int .i64 b, .int .i64 k, .string x, .string o, .string n, .int .i64 t, .int .i64 u] (0, 0) _ HF36.out Tryd.underlying37 rfl (info_rec _ _ _ _ _ _ _ _) ?_)
  intro W8 hbk hoth hbel _
  clear hc39 hc40 hc41 hc42 hc43 hc44 hc45 hc46
  have HF47 := Lib.hid hbk.out
  have HF48 := Lib.hid (blk_oth HF36.out hoth.out (by omega))
  have HB49 := Lib.hid hbel.out
  have HS50 := Lib.hid (HS38.out.kept (hoth.out B (by omega)))
  clear hbk hoth hbel HB37 HS38 HF35 HF36
  go_wp2_with fail
  refine bodyPost_ret (results_ctY rfl _ _ (w.heap.size) #[.int .i64 a, .int .i64 b, .int .i64 k, .string x, .string o, .string n, .int .i64 t, .int .i64 u] rfl (run_loadVar_row _ (w.heap.size) 37 37 _ (0, 0) _ HF47.out Tryd.underlying37 rfl (info_rec _ _ _ _ _ _ _ _))) rfl ?_
  exact ⟨rfl, HB49.out⟩
set_option maxHeartbeats 8000000 in
set_option maxRecDepth 100000 in
theorem etake_no (S : ByteArray) (w : World) (hT : Tab w) (hS : S.size ≤ 1000) (hno : ¬ IsRec S) :
    Calls Tryd.prog 21 #[.string S] w fun e w' => e = .returned (.tuple #[.agg recZ, .int .i64 3]) ∧ Below w.heap.size w w' := by
  have HT := Lib.hid hT
  obtain ⟨U, hU⟩ : ∃ U, (if bareB S = true then bareT S else ⟨#[]⟩) = U := ⟨_, rfl⟩
  obtain ⟨z, hz⟩ : ∃ z : Int, (if bareB S = true then 0 else 3) = z := ⟨_, rfl⟩
  have HBR := Lib.hid (fun W : World => bare_any S W hS)
  unfold bareV at HBR
  rw [hU, hz] at HBR
  have hUs : U.size ≤ 1000 := by
    rw [← hU]
    split
    · rename_i h; have := (bare_of S h).2.1; omega
    · exact Nat.zero_le _
  have HOP := Lib.hid (fun (W : World) (g : Tab W) => open_any U W g (by omega))
  unfold recZ
  cases hse : sealed U with
  | false =>
    rw [opened_noY _ hse] at HOP
    clear hU hz hUs hse hno hT
    have HB1 := Lib.hid (Below.refl w.heap.size w)
    go_enter Tryd.func21, Tryd.ntmps21
    go_wp2_with fail
    have HF2 := Lib.hid (blk_new w (.cells #[.int .i64 0, .int .i64 0, .int .i64 0, .string ⟨#[]⟩, .string ⟨#[]⟩, .string ⟨#[]⟩, .int .i64 0, .int .i64 0] 37 (0, 0)))
    have HB3 := Lib.hid (HB1.out.alloc HB1.out.size (.cells #[.int .i64 0, .int .i64 0, .int .i64 0, .string ⟨#[]⟩, .string ⟨#[]⟩, .string ⟨#[]⟩, .int .i64 0, .int .i64 0] 37 (0, 0)))
    clear HB1
    refine (HBR.out (w.alloc (.cells #[.int .i64 0, .int .i64 0, .int .i64 0, .string ⟨#[]⟩, .string ⟨#[]⟩, .string ⟨#[]⟩, .int .i64 0, .int .i64 0] 37 (0, 0)))).mono ?_
    rintro e w1 ⟨rfl, hb1⟩
    have HF4 := Lib.hid (blk_below HF2.out hb1)
    have HB5 := Lib.hid (HB3.out.trans (hb1.mono HB3.out.size))
    clear hb1 HB3 HF2
    go_wp2_with fail
    refine (HOP.out w1 (HT.out.later HB5.out)).mono ?_
    rintro e w2 ⟨rfl, hb2⟩
    have HF6 := Lib.hid (blk_below HF4.out hb2)
    have HB7 := Lib.hid (HB5.out.trans (hb2.mono HB5.out.size))
    clear hb2 HB5 HF4
    go_wp2_with fail
    refine (new_any _ w2).mono ?_
    rintro e w3 ⟨rfl, hs, hb⟩
    obtain ⟨B, hBe⟩ : ∃ B, B = w2.heap.size := ⟨_, rfl⟩
    rw [← hBe] at hs
    have HF8 := Lib.hid (blk_below HF6.out hb)
    have hk9 : w.heap.size < B := by rw [hBe]; exact lt_of_block HF6.out
    have HB10 := Lib.hid (HB7.out.trans (hb.mono HB7.out.size))
    have hBw : w.heap.size ≤ B := by rw [hBe]; exact HB7.out.size
    have HBE := Lib.hid hBe
    have HS11 := Lib.hid hs
    clear hb hs hBe HB7 HF6
    rw [← HBE.out]
    go_wp2_with (first
      | refine wpList_store_rowY rfl 37 (.tmp 2) (.tmp 29) rfl (w.heap.size) #[.int .i64 0, .int .i64 0, .int .i64 0, .string ⟨#[]⟩, .string ⟨#[]⟩, .string ⟨#[]⟩, .int .i64 0, .int .i64 0] rfl rfl 37 _ HF8.out (info_rec _ _ _ _ _ _ _ _) rfl (one_rec _ _ _ _ _ _ _ _) w.heap.size w HB10.out (by omega) ?_)
    intro W4 hbk hoth hbel _
    have HF12 := Lib.hid hbk.out
    have HB13 := Lib.hid hbel.out
    have HS14 := Lib.hid (HS11.out.kept (hoth.out B (by omega)))
    clear hbk hoth hbel HB10 HS11 HF8
    go_wp2_with fail
    refine bodyPost_ret (results_ctY rfl _ _ (w.heap.size) #[.int .i64 0, .int .i64 0, .int .i64 0, .string ⟨#[]⟩, .string ⟨#[]⟩, .string ⟨#[]⟩, .int .i64 0, .int .i64 0] rfl (run_loadVar_row _ (w.heap.size) 37 37 _ (0, 0) _ HF12.out Tryd.underlying37 rfl (info_rec _ _ _ _ _ _ _ _))) rfl ?_
    exact ⟨rfl, HB13.out⟩
  | true =>
    rw [opened_yesY _ hse] at HOP
    have hb : bareB S = true := by
      cases hb : bareB S with
      | true => rfl
      | false =>
        rw [hb, if_neg (by simp)] at hU
        rw [← hU] at hse
        exact absurd hse (by decide +kernel)
    rw [hb, if_pos rfl] at hU
    obtain ⟨X, hX⟩ : ∃ X, U.extract 0 (U.size - 4) = X := ⟨_, rfl⟩
    rw [hX] at HOP
    have hXs : X.size ≤ 1000 := by rw [← hX, ByteArray.size_extract]; omega
    obtain ⟨f, q0, e0, hf⟩ : ∃ f q e, Rd.fix X 0 0 1 = (f, q, e) := ⟨_, _, _, rfl⟩
    have HFX := Lib.hid (fun (W : World) (B : Nat) (g : Sc W B true X 0 0) => fixU W B X 0 0 1 (by omega) (by omega) g)
    rw [hf] at HFX
    dsimp only at HFX
    have l0 : q0 ≤ X.size := by have := Rd.fix_le X 0 0 1 (Nat.zero_le _); rw [hf] at this; exact this
    by_cases hfs : f = ⟨#[82]⟩
    · subst hfs
      obtain ⟨a, q1, e1, h1⟩ : ∃ a b c, Rd.num X q0 e0 4294967295 = (a, b, c) := ⟨_, _, _, rfl⟩
      have l1 : q1 ≤ X.size := by have := Rd.num_le X q0 e0 4294967295 l0; rw [h1] at this; exact this
      obtain ⟨b, q2, e2, h2⟩ : ∃ a b c, Rd.num X q1 e1 4095 = (a, b, c) := ⟨_, _, _, rfl⟩
      have l2 : q2 ≤ X.size := by have := Rd.num_le X q1 e1 4095 l1; rw [h2] at this; exact this
      obtain ⟨k, q3, e3, h3⟩ : ∃ a b c, Rd.num X q2 e2 2 = (a, b, c) := ⟨_, _, _, rfl⟩
      have l3 : q3 ≤ X.size := by have := Rd.num_le X q2 e2 2 l2; rw [h3] at this; exact this
      obtain ⟨x, q4, e4, h4⟩ : ∃ a b c, Rd.text X q3 e3 12 = (a, b, c) := ⟨_, _, _, rfl⟩
      have l4 : q4 ≤ X.size := by have := Rd.text_le X q3 e3 12 l3; rw [h4] at this; exact this
      obtain ⟨o, q5, e5, h5⟩ : ∃ a b c, Rd.text X q4 e4 32 = (a, b, c) := ⟨_, _, _, rfl⟩
      have l5 : q5 ≤ X.size := by have := Rd.text_le X q4 e4 32 l4; rw [h5] at this; exact this
      obtain ⟨n, q6, e6, h6⟩ : ∃ a b c, Rd.text X q5 e5 32 = (a, b, c) := ⟨_, _, _, rfl⟩
      have l6 : q6 ≤ X.size := by have := Rd.text_le X q5 e5 32 l5; rw [h6] at this; exact this
      obtain ⟨t, q7, e7, h7⟩ : ∃ a b c, Rd.num X q6 e6 524288 = (a, b, c) := ⟨_, _, _, rfl⟩
      have l7 : q7 ≤ X.size := by have := Rd.num_le X q6 e6 524288 l6; rw [h7] at this; exact this
      obtain ⟨u, q8, e8, h8⟩ : ∃ a b c, Rd.num X q7 e7 4294967296 = (a, b, c) := ⟨_, _, _, rfl⟩
      have l8 : q8 ≤ X.size := by have := Rd.num_le X q7 e7 4294967296 l7; rw [h8] at this; exact this
      have HRD := Lib.hid (fun (W : World) (B : Nat) (g : Sc W B true X q0 e0) => eread_any W B X q0 q1 q2 q3 q4 q5 q6 q7 q8 e0 e1 e2 e3 e4 e5 e6 e7 e8 a b k x o n t u (by omega) l0 g h1 h2 h3 h4 h5 h6 h7 h8)
      have HEN := Lib.hid (fun (W : World) (B : Nat) (g : Sc W B true X q8 e8) => finU W B X q8 e8 (by omega) l8 g)
      have hxs : x.size ≤ maxLen := by
        have := Rd.fix_size X (Rd.num X q3 e3 12).2.1 (Rd.num X q3 e3 12).2.2 (Rd.num X q3 e3 12).1
        have e : (Rd.text X q3 e3 12).1.size ≤ X.size := this
        rw [h4] at e
        dsimp only at e
        unfold maxLen; omega
      have HCK := Lib.hid (fun W : World => rcheck_any a b k x o n t u W hxs)
      have hrec := fun hfin hr => hno ⟨a, b, k, x, o, n, t, u, hr, rec_of S X q0 q1 q2 q3 q4 q5 q6 q7 q8 e0 e1 e2 e3 e4 e5 e6 e7 e8 a b k x o n t u hb (by rw [hU]; exact hse) (by rw [hU]; exact hX) hf h1 h2 h3 h4 h5 h6 h7 h8 hfin⟩
      obtain ⟨y, hy⟩ : ∃ y, Rd.fin X q8 e8 = y := ⟨_, rfl⟩
      rw [hy] at HEN hrec
      by_cases hy0 : y = 0
      · subst hy0
        have hr : rok a b k x o n t u = false := by
          cases hr : rok a b k x o n t u with
          | false => rfl
          | true => exact (hrec rfl hr).elim
        rw [← errR_no hr] at HCK
        clear hU hz hUs hse hno hT hb hX hXs hf l0 h1 h2 h3 h4 h5 h6 h7 h8 l1 l2 l3 l4 l5 l6 l7 l8 hxs hrec hr hy
        have HB1 := Lib.hid (Below.refl w.heap.size w)
        go_enter Tryd.func21, Tryd.ntmps21
        go_wp2_with fail
        have HF2 := Lib.hid (blk_new w (.cells #[.int .i64 0, .int .i64 0, .int .i64 0, .string ⟨#[]⟩, .string ⟨#[]⟩, .string ⟨#[]⟩, .int .i64 0, .int .i64 0] 37 (0, 0)))
        have HB3 := Lib.hid (HB1.out.alloc HB1.out.size (.cells #[.int .i64 0, .int .i64 0, .int .i64 0, .string ⟨#[]⟩, .string ⟨#[]⟩, .string ⟨#[]⟩, .int .i64 0, .int .i64 0] 37 (0, 0)))
        clear HB1
        refine (HBR.out (w.alloc (.cells #[.int .i64 0, .int .i64 0, .int .i64 0, .string ⟨#[]⟩, .string ⟨#[]⟩, .string ⟨#[]⟩, .int .i64 0, .int .i64 0] 37 (0, 0)))).mono ?_
        rintro e w1 ⟨rfl, hb1⟩
        have HF4 := Lib.hid (blk_below HF2.out hb1)
        have HB5 := Lib.hid (HB3.out.trans (hb1.mono HB3.out.size))
        clear hb1 HB3 HF2
        go_wp2_with fail
        refine (HOP.out w1 (HT.out.later HB5.out)).mono ?_
        rintro e w2 ⟨rfl, hb2⟩
        have HF6 := Lib.hid (blk_below HF4.out hb2)
        have HB7 := Lib.hid (HB5.out.trans (hb2.mono HB5.out.size))
        clear hb2 HB5 HF4
        go_wp2_with fail
        refine (new_any _ w2).mono ?_
        rintro e w3 ⟨rfl, hs, hb⟩
        obtain ⟨B, hBe⟩ : ∃ B, B = w2.heap.size := ⟨_, rfl⟩
        rw [← hBe] at hs
        have HF8 := Lib.hid (blk_below HF6.out hb)
        have hk9 : w.heap.size < B := by rw [hBe]; exact lt_of_block HF6.out
        have HB10 := Lib.hid (HB7.out.trans (hb.mono HB7.out.size))
        have hBw : w.heap.size ≤ B := by rw [hBe]; exact HB7.out.size
        have HBE := Lib.hid hBe
        have HS11 := Lib.hid hs
        clear hb hs hBe HB7 HF6
        rw [← HBE.out]
        go_wp2_with fail
        refine (HFX.out w3 _ HS11.out).mono ?_
        rintro e w4 ⟨rfl, hs, hk⟩
        have HF12 := Lib.hid (blk_but HF8.out hk (by omega))
        have HB13 := Lib.hid (But.below HB10.out hk hBw HB10.out.size)
        have HS14 := Lib.hid hs
        clear hs hk HB10 HS11 HF8
        go_wp2_with fail
        refine (HRD.out w4 _ HS14.out).mono ?_
        rintro e w5 ⟨rfl, hs, hk⟩
        have HF15 := Lib.hid (blk_but HF12.out hk (by omega))
        have HB16 := Lib.hid (But.below HB13.out hk hBw HB13.out.size)
        have HS17 := Lib.hid hs
        clear hs hk HB13 HS14 HF12
        have hk18 : B < w5.heap.size := HS17.out.lt
        have HF19 := Lib.hid (blk_alloc HF15.out (.cells #[.int .i64 a, .int .i64 b, .int .i64 k, .string x, .string o, .string n, .int .i64 t, .int .i64 u] 37 (0, 0)))
        have HF20 := Lib.hid (blk_new w5 (.cells #[.int .i64 a, .int .i64 b, .int .i64 k, .string x, .string o, .string n, .int .i64 t, .int .i64 u] 37 (0, 0)))
        have HB21 := Lib.hid (HB16.out.alloc HB16.out.size (.cells #[.int .i64 a, .int .i64 b, .int .i64 k, .string x, .string o, .string n, .int .i64 t, .int .i64 u] 37 (0, 0)))
        clear HB16
        have HS22 := Lib.hid (HS17.out.alloc (.cells #[.int .i64 a, .int .i64 b, .int .i64 k, .string x, .string o, .string n, .int .i64 t, .int .i64 u] 37 (0, 0)))
        clear HS17
        go_wp2_with fail
        refine (HEN.out (w5.alloc (.cells #[.int .i64 a, .int .i64 b, .int .i64 k, .string x, .string o, .string n, .int .i64 t, .int .i64 u] 37 (0, 0))) _ HS22.out).mono ?_
        rintro e w6 ⟨rfl, hs, hk⟩
        have HF23 := Lib.hid (blk_but HF19.out hk (by omega))
        have HF24 := Lib.hid (blk_but HF20.out hk (by omega))
        have HB25 := Lib.hid (But.below HB21.out hk hBw HB21.out.size)
        have HS26 := Lib.hid hs
        clear hs hk HB21 HS22 HF19 HF15 HF20
        have hc27 : w6.cell? ⟨w5.heap.size, 0, none⟩ = some (.int .i64 a) := by rw [cell_of_row _ _ _ _ _ _ HF24.out]; rfl
        have hc28 : w6.cell? ⟨w5.heap.size, 1, none⟩ = some (.int .i64 b) := by rw [cell_of_row _ _ _ _ _ _ HF24.out]; rfl
        have hc29 : w6.cell? ⟨w5.heap.size, 2, none⟩ = some (.int .i64 k) := by rw [cell_of_row _ _ _ _ _ _ HF24.out]; rfl
        have hc30 : w6.cell? ⟨w5.heap.size, 3, none⟩ = some (.string x) := by rw [cell_of_row _ _ _ _ _ _ HF24.out]; rfl
        have hc31 : w6.cell? ⟨w5.heap.size, 4, none⟩ = some (.string o) := by rw [cell_of_row _ _ _ _ _ _ HF24.out]; rfl
        have hc32 : w6.cell? ⟨w5.heap.size, 5, none⟩ = some (.string n) := by rw [cell_of_row _ _ _ _ _ _ HF24.out]; rfl
        have hc33 : w6.cell? ⟨w5.heap.size, 6, none⟩ = some (.int .i64 t) := by rw [cell_of_row _ _ _ _ _ _ HF24.out]; rfl
        have hc34 : w6.cell? ⟨w5.heap.size, 7, none⟩ = some (.int .i64 u) := by rw [cell_of_row _ _ _ _ _ _ HF24.out]; rfl
        go_wp2_with fail
        refine (HCK.out w6).mono ?_
        rintro e w7 ⟨rfl, hb7⟩
        clear hc27 hc28 hc29 hc30 hc31 hc32 hc33 hc34
        have HF35 := Lib.hid (blk_below HF23.out hb7)
        have HF36 := Lib.hid (blk_below HF24.out hb7)
        have HB37 := Lib.hid (HB25.out.trans (hb7.mono HB25.out.size))
        have HS38 := Lib.hid (HS26.out.kept (hb7.block B HS26.out.lt))
        clear hb7 HB25 HS26 HF23 HF24
        go_wp2_with (first
          | refine wpList_store_rowY rfl 37 (.tmp 2) (.tmp 43) rfl (w.heap.size) #[.int .i64 0, .int .i64 0, .int .i64 0, .string ⟨#[]⟩, .string ⟨#[]⟩, .string ⟨#[]⟩, .int .i64 0, .int .i64 0] rfl rfl 37 _ HF35.out (info_rec _ _ _ _ _ _ _ _) rfl (one_rec _ _ _ _ _ _ _ _) w.heap.size w HB37.out (by omega) ?_)
        intro W8 hbk hoth hbel _
        have HF39 := Lib.hid hbk.out
        have HF40 := Lib.hid (blk_oth HF36.out hoth.out (by omega))
        have HB41 := Lib.hid hbel.out
        have HS42 := Lib.hid (HS38.out.kept (hoth.out B (by omega)))
        clear hbk hoth hbel HB37 HS38 HF35 HF36
        go_wp2_with fail
        refine bodyPost_ret (results_ctY rfl _ _ (w.heap.size) #[.int .i64 0, .int .i64 0, .int .i64 0, .string ⟨#[]⟩, .string ⟨#[]⟩, .string ⟨#[]⟩, .int .i64 0, .int .i64 0] rfl (run_loadVar_row _ (w.heap.size) 37 37 _ (0, 0) _ HF39.out Tryd.underlying37 rfl (info_rec _ _ _ _ _ _ _ _))) rfl ?_
        exact ⟨rfl, HB41.out⟩
      · have hn1 : (y == 0) = false := by rw [beq_eq_false_iff_ne]; exact hy0
        have hn2 : (y != 0) = true := by rw [bne, hn1]; rfl
        clear hU hz hUs hse hno hT hb hX hXs hf l0 h1 h2 h3 h4 h5 h6 h7 h8 l1 l2 l3 l4 l5 l6 l7 l8 hxs hrec hy hy0
        have HB1 := Lib.hid (Below.refl w.heap.size w)
        go_enter Tryd.func21, Tryd.ntmps21
        go_wp2_with fail
        have HF2 := Lib.hid (blk_new w (.cells #[.int .i64 0, .int .i64 0, .int .i64 0, .string ⟨#[]⟩, .string ⟨#[]⟩, .string ⟨#[]⟩, .int .i64 0, .int .i64 0] 37 (0, 0)))
        have HB3 := Lib.hid (HB1.out.alloc HB1.out.size (.cells #[.int .i64 0, .int .i64 0, .int .i64 0, .string ⟨#[]⟩, .string ⟨#[]⟩, .string ⟨#[]⟩, .int .i64 0, .int .i64 0] 37 (0, 0)))
        clear HB1
        refine (HBR.out (w.alloc (.cells #[.int .i64 0, .int .i64 0, .int .i64 0, .string ⟨#[]⟩, .string ⟨#[]⟩, .string ⟨#[]⟩, .int .i64 0, .int .i64 0] 37 (0, 0)))).mono ?_
        rintro e w1 ⟨rfl, hb1⟩
        have HF4 := Lib.hid (blk_below HF2.out hb1)
        have HB5 := Lib.hid (HB3.out.trans (hb1.mono HB3.out.size))
        clear hb1 HB3 HF2
        go_wp2_with fail
        refine (HOP.out w1 (HT.out.later HB5.out)).mono ?_
        rintro e w2 ⟨rfl, hb2⟩
        have HF6 := Lib.hid (blk_below HF4.out hb2)
        have HB7 := Lib.hid (HB5.out.trans (hb2.mono HB5.out.size))
        clear hb2 HB5 HF4
        go_wp2_with fail
        refine (new_any _ w2).mono ?_
        rintro e w3 ⟨rfl, hs, hb⟩
        obtain ⟨B, hBe⟩ : ∃ B, B = w2.heap.size := ⟨_, rfl⟩
        rw [← hBe] at hs
        have HF8 := Lib.hid (blk_below HF6.out hb)
        have hk9 : w.heap.size < B := by rw [hBe]; exact lt_of_block HF6.out
        have HB10 := Lib.hid (HB7.out.trans (hb.mono HB7.out.size))
        have hBw : w.heap.size ≤ B := by rw [hBe]; exact HB7.out.size
        have HBE := Lib.hid hBe
        have HS11 := Lib.hid hs
        clear hb hs hBe HB7 HF6
        rw [← HBE.out]
        go_wp2_with fail
        refine (HFX.out w3 _ HS11.out).mono ?_
        rintro e w4 ⟨rfl, hs, hk⟩
        have HF12 := Lib.hid (blk_but HF8.out hk (by omega))
        have HB13 := Lib.hid (But.below HB10.out hk hBw HB10.out.size)
        have HS14 := Lib.hid hs
        clear hs hk HB10 HS11 HF8
        go_wp2_with fail
        refine (HRD.out w4 _ HS14.out).mono ?_
        rintro e w5 ⟨rfl, hs, hk⟩
        have HF15 := Lib.hid (blk_but HF12.out hk (by omega))
        have HB16 := Lib.hid (But.below HB13.out hk hBw HB13.out.size)
        have HS17 := Lib.hid hs
        clear hs hk HB13 HS14 HF12
        have hk18 : B < w5.heap.size := HS17.out.lt
        have HF19 := Lib.hid (blk_alloc HF15.out (.cells #[.int .i64 a, .int .i64 b, .int .i64 k, .string x, .string o, .string n, .int .i64 t, .int .i64 u] 37 (0, 0)))
        have HF20 := Lib.hid (blk_new w5 (.cells #[.int .i64 a, .int .i64 b, .int .i64 k, .string x, .string o, .string n, .int .i64 t, .int .i64 u] 37 (0, 0)))
        have HB21 := Lib.hid (HB16.out.alloc HB16.out.size (.cells #[.int .i64 a, .int .i64 b, .int .i64 k, .string x, .string o, .string n, .int .i64 t, .int .i64 u] 37 (0, 0)))
        clear HB16
        have HS22 := Lib.hid (HS17.out.alloc (.cells #[.int .i64 a, .int .i64 b, .int .i64 k, .string x, .string o, .string n, .int .i64 t, .int .i64 u] 37 (0, 0)))
        clear HS17
        go_wp2_with fail
        refine (HEN.out (w5.alloc (.cells #[.int .i64 a, .int .i64 b, .int .i64 k, .string x, .string o, .string n, .int .i64 t, .int .i64 u] 37 (0, 0))) _ HS22.out).mono ?_
        rintro e w6 ⟨rfl, hs, hk⟩
        have HF23 := Lib.hid (blk_but HF19.out hk (by omega))
        have HF24 := Lib.hid (blk_but HF20.out hk (by omega))
        have HB25 := Lib.hid (But.below HB21.out hk hBw HB21.out.size)
        have HS26 := Lib.hid hs
        clear hs hk HB21 HS22 HF19 HF15 HF20
        go_wp2_with (first
          | refine wpList_store_rowY rfl 37 (.tmp 2) (.tmp 43) rfl (w.heap.size) #[.int .i64 0, .int .i64 0, .int .i64 0, .string ⟨#[]⟩, .string ⟨#[]⟩, .string ⟨#[]⟩, .int .i64 0, .int .i64 0] rfl rfl 37 _ HF23.out (info_rec _ _ _ _ _ _ _ _) rfl (one_rec _ _ _ _ _ _ _ _) w.heap.size w HB25.out (by omega) ?_)
        intro W7 hbk hoth hbel _
        have HF27 := Lib.hid hbk.out
        have HF28 := Lib.hid (blk_oth HF24.out hoth.out (by omega))
        have HB29 := Lib.hid hbel.out
        have HS30 := Lib.hid (HS26.out.kept (hoth.out B (by omega)))
        clear hbk hoth hbel HB25 HS26 HF23 HF24
        go_wp2_with fail
        refine bodyPost_ret (results_ctY rfl _ _ (w.heap.size) #[.int .i64 0, .int .i64 0, .int .i64 0, .string ⟨#[]⟩, .string ⟨#[]⟩, .string ⟨#[]⟩, .int .i64 0, .int .i64 0] rfl (run_loadVar_row _ (w.heap.size) 37 37 _ (0, 0) _ HF27.out Tryd.underlying37 rfl (info_rec _ _ _ _ _ _ _ _))) rfl ?_
        exact ⟨rfl, HB29.out⟩
    · have hn1 : (f.toList == [82]) = false := lstE_no hfs
      have hn2 : (f.toList != [82]) = true := by rw [bne, hn1]; rfl
      clear hU hz hUs hse hno hT hb hX hXs hf l0 hfs
      have HB1 := Lib.hid (Below.refl w.heap.size w)
      go_enter Tryd.func21, Tryd.ntmps21
      go_wp2_with fail
      have HF2 := Lib.hid (blk_new w (.cells #[.int .i64 0, .int .i64 0, .int .i64 0, .string ⟨#[]⟩, .string ⟨#[]⟩, .string ⟨#[]⟩, .int .i64 0, .int .i64 0] 37 (0, 0)))
      have HB3 := Lib.hid (HB1.out.alloc HB1.out.size (.cells #[.int .i64 0, .int .i64 0, .int .i64 0, .string ⟨#[]⟩, .string ⟨#[]⟩, .string ⟨#[]⟩, .int .i64 0, .int .i64 0] 37 (0, 0)))
      clear HB1
      refine (HBR.out (w.alloc (.cells #[.int .i64 0, .int .i64 0, .int .i64 0, .string ⟨#[]⟩, .string ⟨#[]⟩, .string ⟨#[]⟩, .int .i64 0, .int .i64 0] 37 (0, 0)))).mono ?_
      rintro e w1 ⟨rfl, hb1⟩
      have HF4 := Lib.hid (blk_below HF2.out hb1)
      have HB5 := Lib.hid (HB3.out.trans (hb1.mono HB3.out.size))
      clear hb1 HB3 HF2
      go_wp2_with fail
      refine (HOP.out w1 (HT.out.later HB5.out)).mono ?_
      rintro e w2 ⟨rfl, hb2⟩
      have HF6 := Lib.hid (blk_below HF4.out hb2)
      have HB7 := Lib.hid (HB5.out.trans (hb2.mono HB5.out.size))
      clear hb2 HB5 HF4
      go_wp2_with fail
      refine (new_any _ w2).mono ?_
      rintro e w3 ⟨rfl, hs, hb⟩
      obtain ⟨B, hBe⟩ : ∃ B, B = w2.heap.size := ⟨_, rfl⟩
      rw [← hBe] at hs
      have HF8 := Lib.hid (blk_below HF6.out hb)
      have hk9 : w.heap.size < B := by rw [hBe]; exact lt_of_block HF6.out
      have HB10 := Lib.hid (HB7.out.trans (hb.mono HB7.out.size))
      have hBw : w.heap.size ≤ B := by rw [hBe]; exact HB7.out.size
      have HBE := Lib.hid hBe
      have HS11 := Lib.hid hs
      clear hb hs hBe HB7 HF6
      rw [← HBE.out]
      go_wp2_with fail
      refine (HFX.out w3 _ HS11.out).mono ?_
      rintro e w4 ⟨rfl, hs, hk⟩
      have HF12 := Lib.hid (blk_but HF8.out hk (by omega))
      have HB13 := Lib.hid (But.below HB10.out hk hBw HB10.out.size)
      have HS14 := Lib.hid hs
      clear hs hk HB10 HS11 HF8
      go_wp2_with (first
        | refine wpList_store_rowY rfl 37 (.tmp 2) (.tmp 29) rfl (w.heap.size) #[.int .i64 0, .int .i64 0, .int .i64 0, .string ⟨#[]⟩, .string ⟨#[]⟩, .string ⟨#[]⟩, .int .i64 0, .int .i64 0] rfl rfl 37 _ HF12.out (info_rec _ _ _ _ _ _ _ _) rfl (one_rec _ _ _ _ _ _ _ _) w.heap.size w HB13.out (by omega) ?_)
      intro W5 hbk hoth hbel _
      have HF15 := Lib.hid hbk.out
      have HB16 := Lib.hid hbel.out
      have HS17 := Lib.hid (HS14.out.kept (hoth.out B (by omega)))
      clear hbk hoth hbel HB13 HS14 HF12
      go_wp2_with fail
      refine bodyPost_ret (results_ctY rfl _ _ (w.heap.size) #[.int .i64 0, .int .i64 0, .int .i64 0, .string ⟨#[]⟩, .string ⟨#[]⟩, .string ⟨#[]⟩, .int .i64 0, .int .i64 0] rfl (run_loadVar_row _ (w.heap.size) 37 37 _ (0, 0) _ HF15.out Tryd.underlying37 rfl (info_rec _ _ _ _ _ _ _ _))) rfl ?_
      exact ⟨rfl, HB16.out⟩
end Go.Proofs.YtpiafgdbjpfcaaaDoor
