/- The contract of the document's Take of layer 6 and ValueTakes' walk over this translation. Condition: texts of at most a million bytes. -/
import Derived.Test.YtcgoegehgcecpaaDoorRows
import Derived.Test.YtcgoegehgcecpaaDoorWs
import Derived.Deep.DeepCutAuto
namespace Go.Proofs.YtcgoegehgcecpaaDoor
open Go.RowKit Vi Hm

theorem setV (W : World) (b : Nat) (o0 o1 o2 x y z : Value) (hb : W.heap[b]? = some (.cells #[o0, o1, o2] 24 (0, 0))) (w : World) (hB : Below w.heap.size w W) (h1 : w.heap.size ≤ b) :
    (((W.setCell ⟨b, 0, none⟩ x).setCell ⟨b, 1, none⟩ y).setCell ⟨b, 2, none⟩ z).drew.heap[b]? = some (.cells #[x, y, z] 24 (0, 0)) ∧ Below w.heap.size w (((W.setCell ⟨b, 0, none⟩ x).setCell ⟨b, 1, none⟩ y).setCell ⟨b, 2, none⟩ z).drew := by
  have a1 := heap_setCell_at (i := 0) (u := x) hb
  have a2 := heap_setCell_at (i := 1) (u := y) a1
  have a3 := heap_setCell_at (i := 2) (u := z) a2
  exact ⟨a3, (((hB.setCell (p := ⟨b, 0, none⟩) h1 x).setCell (p := ⟨b, 1, none⟩) h1 y).setCell (p := ⟨b, 2, none⟩) h1 z).drew⟩
set_option maxHeartbeats 4000000 in
set_option maxRecDepth 100000 in
theorem rvtake_any (S : ByteArray) (w : World) (hS : S.size ≤ 1000000) :
    Calls Tryd.prog 16 #[.string S] w fun e w' => e = .returned (.tuple #[.agg (vvv (tkV S)), .int .i64 (tkE S)]) ∧ Below w.heap.size w w' := by
  have HR := Lib.hid (fun W : World => rvread_any S 0 0 W hS (Nat.zero_le _))
  have HE := Lib.hid (fun W : World => rEnd_any S (rvM S 0 0).2.2.2.1 (rvE S 0 0) W)
  obtain ⟨f, hf⟩ : ∃ f, f = tkE S := ⟨_, rfl⟩
  have hf2 : f = Rd.fin S (rvM S 0 0).2.2.2.1 (rvE S 0 0) := hf
  have HV : Hid (tkV S = if f = 0 then rvV S 0 0 else (0, 0, ⟨#[]⟩)) := by show tkV S = _; rw [hf]; rfl
  rw [← hf2] at HE
  rw [← hf]
  obtain ⟨k, n, t, hv⟩ : ∃ k n t, rvV S 0 0 = (k, n, t) := ⟨_, _, _, rfl⟩
  rw [hv] at HV HR
  unfold vvv at HR
  unfold sv at HE
  dsimp only at HR
  generalize (rvM S 0 0).2.2.2.1 = q at HR HE
  generalize rvE S 0 0 = e3 at HR HE
  clear hf hf2 hv
  by_cases hz : f = 0
  · subst hz
    have HW := Lib.hid (show tkV S = (k, n, t) by rw [HV.out]; rfl)
    clear HV
    have HB1 := Lib.hid (Below.refl w.heap.size w)
    go_enter Tryd.func16, Tryd.ntmps16
    go_wp2_with fail
    have HF2 := Lib.hid (blk_new w (.cells #[.int .i64 0, .int .i64 0, .string ⟨#[]⟩] 24 (0, 0)))
    have HB3 := Lib.hid (HB1.out.alloc HB1.out.size (.cells #[.int .i64 0, .int .i64 0, .string ⟨#[]⟩] 24 (0, 0)))
    clear HB1
    refine (HR.out (w.alloc (.cells #[.int .i64 0, .int .i64 0, .string ⟨#[]⟩] 24 (0, 0)))).mono ?_
    rintro e w1 ⟨rfl, hb1⟩
    have HF4 := Lib.hid (blk_below HF2.out hb1)
    have HB5 := Lib.hid (HB3.out.trans (hb1.mono HB3.out.size))
    clear hb1 HB3 HF2
    have hk6 : w.heap.size < w1.heap.size := lt_of_block HF4.out
    have HF7 := Lib.hid (blk_alloc HF4.out (.cells #[.string S, .int .i64 (q : Int), .int .i64 e3] 34 (0, 0)))
    have HF8 := Lib.hid (blk_new w1 (.cells #[.string S, .int .i64 (q : Int), .int .i64 e3] 34 (0, 0)))
    have HB9 := Lib.hid (HB5.out.alloc HB5.out.size (.cells #[.string S, .int .i64 (q : Int), .int .i64 e3] 34 (0, 0)))
    clear HB5
    have HF10 := Lib.hid (blk_alloc HF7.out (.cells #[.int .i64 k, .int .i64 n, .string t] 24 (0, 0)))
    clear HF7
    have HF11 := Lib.hid (blk_alloc HF8.out (.cells #[.int .i64 k, .int .i64 n, .string t] 24 (0, 0)))
    clear HF8
    have HF12 : Hid (((w1.alloc (.cells #[.string S, .int .i64 (q : Int), .int .i64 e3] 34 (0, 0))).alloc (.cells #[.int .i64 k, .int .i64 n, .string t] 24 (0, 0))).heap[w1.heap.size + 1]? = some (.cells #[.int .i64 k, .int .i64 n, .string t] 24 (0, 0))) := Lib.hid (blk_newN (W := (w1.alloc (.cells #[.string S, .int .i64 (q : Int), .int .i64 e3] 34 (0, 0)))) (o := (.cells #[.int .i64 k, .int .i64 n, .string t] 24 (0, 0))) (by simp))
    have HB13 := Lib.hid (HB9.out.alloc (by have := HB9.out.size; simp at this ⊢ <;> omega) (.cells #[.int .i64 k, .int .i64 n, .string t] 24 (0, 0)))
    clear HB9
    go_wp2_with fail
    refine (HE.out ((w1.alloc (.cells #[.string S, .int .i64 (q : Int), .int .i64 e3] 34 (0, 0))).alloc (.cells #[.int .i64 k, .int .i64 n, .string t] 24 (0, 0)))).mono ?_
    rintro e w2 ⟨rfl, hb2⟩
    have HF14 := Lib.hid (blk_below HF10.out hb2)
    have HF15 := Lib.hid (blk_below HF11.out hb2)
    have HF16 := Lib.hid (blk_below HF12.out hb2)
    have HB17 := Lib.hid (HB13.out.trans (hb2.mono HB13.out.size))
    clear hb2 HB13 HF10 HF4 HF11 HF12
    go_wp2_with (first
      | refine wpList_store_rowY rfl 34 (.tmp 4) (.tmp 13) rfl (w1.heap.size) #[.string S, .int .i64 (q : Int), .int .i64 0] rfl rfl 34 _ HF15.out (info_sc3 _ _ _) rfl (one_sc3 _ _ _) w.heap.size w HB17.out (by omega) ?_)
    intro W3 hbk hoth hbel _
    have HF18 := Lib.hid (blk_oth HF14.out hoth.out (by omega))
    have HF19 := Lib.hid hbk.out
    have HF20 := Lib.hid (blk_oth HF16.out hoth.out (by omega))
    have HB21 := Lib.hid hbel.out
    clear hbk hoth hbel HB17 HF14 HF15 HF16
    have hc22 : W3.cell? ⟨w1.heap.size, 0, none⟩ = some (.string S) := by rw [cell_of_row _ _ _ _ _ _ HF19.out]; rfl
    have hc23 : W3.cell? ⟨w1.heap.size, 1, none⟩ = some (.int .i64 (q : Int)) := by rw [cell_of_row _ _ _ _ _ _ HF19.out]; rfl
    have hc24 : W3.cell? ⟨w1.heap.size, 2, none⟩ = some (.int .i64 0) := by rw [cell_of_row _ _ _ _ _ _ HF19.out]; rfl
    go_wp2_with (first
      | refine wpList_store_rowY rfl 24 (.tmp 2) (.tmp 20) rfl (w.heap.size) #[.int .i64 k, .int .i64 n, .string t] rfl rfl 24 _ HF18.out (info_val _ _ _) rfl (one_val _ _ _) w.heap.size w HB21.out (by omega) ?_
      | refine wpList_load_row rfl 24 (.tmp 5) rfl (w1.heap.size + 1) rfl 24 #[.int .i64 k, .int .i64 n, .string t] (0, 0) _ HF20.out Tryd.underlying24 rfl (info_val _ _ _) ?_)
    intro W4 hbk hoth hbel _
    clear hc22 hc23 hc24
    have HF25 := Lib.hid hbk.out
    have HF26 := Lib.hid (blk_oth HF19.out hoth.out (by omega))
    have HF27 := Lib.hid (blk_oth HF20.out hoth.out (by omega))
    have HB28 := Lib.hid hbel.out
    clear hbk hoth hbel HB21 HF18 HF19 HF20
    go_wp2_with fail
    refine bodyPost_ret (results_ctY rfl _ _ (w.heap.size) #[.int .i64 k, .int .i64 n, .string t] rfl (run_loadVar_row _ (w.heap.size) 24 24 _ (0, 0) _ HF25.out Tryd.underlying24 rfl (info_val _ _ _))) rfl ?_
    exact ⟨by rw [HW.out]; rfl, HB28.out⟩
  · have HW := Lib.hid (show tkV S = (0, 0, ⟨#[]⟩) by rw [HV.out, if_neg hz])
    have hn : (f != 0) = true := by simpa using hz
    have hn2 : (f == 0) = false := by simpa using hz
    clear hz
    clear HV
    have HB1 := Lib.hid (Below.refl w.heap.size w)
    go_enter Tryd.func16, Tryd.ntmps16
    go_wp2_with fail
    have HF2 := Lib.hid (blk_new w (.cells #[.int .i64 0, .int .i64 0, .string ⟨#[]⟩] 24 (0, 0)))
    have HB3 := Lib.hid (HB1.out.alloc HB1.out.size (.cells #[.int .i64 0, .int .i64 0, .string ⟨#[]⟩] 24 (0, 0)))
    clear HB1
    refine (HR.out (w.alloc (.cells #[.int .i64 0, .int .i64 0, .string ⟨#[]⟩] 24 (0, 0)))).mono ?_
    rintro e w1 ⟨rfl, hb1⟩
    have HF4 := Lib.hid (blk_below HF2.out hb1)
    have HB5 := Lib.hid (HB3.out.trans (hb1.mono HB3.out.size))
    clear hb1 HB3 HF2
    have hk6 : w.heap.size < w1.heap.size := lt_of_block HF4.out
    have HF7 := Lib.hid (blk_alloc HF4.out (.cells #[.string S, .int .i64 (q : Int), .int .i64 e3] 34 (0, 0)))
    have HF8 := Lib.hid (blk_new w1 (.cells #[.string S, .int .i64 (q : Int), .int .i64 e3] 34 (0, 0)))
    have HB9 := Lib.hid (HB5.out.alloc HB5.out.size (.cells #[.string S, .int .i64 (q : Int), .int .i64 e3] 34 (0, 0)))
    clear HB5
    have HF10 := Lib.hid (blk_alloc HF7.out (.cells #[.int .i64 k, .int .i64 n, .string t] 24 (0, 0)))
    clear HF7
    have HF11 := Lib.hid (blk_alloc HF8.out (.cells #[.int .i64 k, .int .i64 n, .string t] 24 (0, 0)))
    clear HF8
    have HF12 : Hid (((w1.alloc (.cells #[.string S, .int .i64 (q : Int), .int .i64 e3] 34 (0, 0))).alloc (.cells #[.int .i64 k, .int .i64 n, .string t] 24 (0, 0))).heap[w1.heap.size + 1]? = some (.cells #[.int .i64 k, .int .i64 n, .string t] 24 (0, 0))) := Lib.hid (blk_newN (W := (w1.alloc (.cells #[.string S, .int .i64 (q : Int), .int .i64 e3] 34 (0, 0)))) (o := (.cells #[.int .i64 k, .int .i64 n, .string t] 24 (0, 0))) (by simp))
    have HB13 := Lib.hid (HB9.out.alloc (by have := HB9.out.size; simp at this ⊢ <;> omega) (.cells #[.int .i64 k, .int .i64 n, .string t] 24 (0, 0)))
    clear HB9
    go_wp2_with fail
    refine (HE.out ((w1.alloc (.cells #[.string S, .int .i64 (q : Int), .int .i64 e3] 34 (0, 0))).alloc (.cells #[.int .i64 k, .int .i64 n, .string t] 24 (0, 0)))).mono ?_
    rintro e w2 ⟨rfl, hb2⟩
    have HF14 := Lib.hid (blk_below HF10.out hb2)
    have HF15 := Lib.hid (blk_below HF11.out hb2)
    have HF16 := Lib.hid (blk_below HF12.out hb2)
    have HB17 := Lib.hid (HB13.out.trans (hb2.mono HB13.out.size))
    clear hb2 HB13 HF10 HF4 HF11 HF12
    go_wp2_with (first
      | refine wpList_store_rowY rfl 34 (.tmp 4) (.tmp 13) rfl (w1.heap.size) #[.string S, .int .i64 (q : Int), .int .i64 f] rfl rfl 34 _ HF15.out (info_sc3 _ _ _) rfl (one_sc3 _ _ _) w.heap.size w HB17.out (by omega) ?_)
    intro W3 hbk hoth hbel _
    have HF18 := Lib.hid (blk_oth HF14.out hoth.out (by omega))
    have HF19 := Lib.hid hbk.out
    have HF20 := Lib.hid (blk_oth HF16.out hoth.out (by omega))
    have HB21 := Lib.hid hbel.out
    clear hbk hoth hbel HB17 HF14 HF15 HF16
    have hc22 : W3.cell? ⟨w1.heap.size, 0, none⟩ = some (.string S) := by rw [cell_of_row _ _ _ _ _ _ HF19.out]; rfl
    have hc23 : W3.cell? ⟨w1.heap.size, 1, none⟩ = some (.int .i64 (q : Int)) := by rw [cell_of_row _ _ _ _ _ _ HF19.out]; rfl
    have hc24 : W3.cell? ⟨w1.heap.size, 2, none⟩ = some (.int .i64 f) := by rw [cell_of_row _ _ _ _ _ _ HF19.out]; rfl
    have hc25 : W3.cell? ⟨w.heap.size, 0, none⟩ = some (.int .i64 0) := by rw [cell_of_row _ _ _ _ _ _ HF18.out]; rfl
    have hc26 : W3.cell? ⟨w.heap.size, 1, none⟩ = some (.int .i64 0) := by rw [cell_of_row _ _ _ _ _ _ HF18.out]; rfl
    have hc27 : W3.cell? ⟨w.heap.size, 2, none⟩ = some (.string ⟨#[]⟩) := by rw [cell_of_row _ _ _ _ _ _ HF18.out]; rfl
    have hz28 : W3.frozen? ⟨w.heap.size, 0, none⟩ = false := frozen_of_row _ _ _ _ _ HF18.out
    have hz29 : W3.frozen? ⟨w.heap.size, 1, none⟩ = false := frozen_of_row _ _ _ _ _ HF18.out
    have hz30 : W3.frozen? ⟨w.heap.size, 2, none⟩ = false := frozen_of_row _ _ _ _ _ HF18.out
    go_wp2_with fail
    go_region
    obtain ⟨z1, z3⟩ := setV W3 w.heap.size _ _ _ (.int .i64 0) (.int .i64 0) (.string ⟨#[]⟩) HF18.out w HB21.out (Nat.le_refl _)
    generalize (((W3.setCell ⟨w.heap.size, 0, none⟩ (.int .i64 0)).setCell ⟨w.heap.size, 1, none⟩ (.int .i64 0)).setCell ⟨w.heap.size, 2, none⟩ (.string ⟨#[]⟩)).drew = Wz at z1 z3 ⊢
    have Z1 := Lib.hid z1
    have Z3 := Lib.hid z3
    clear z1 z3
    clear hc22 hc23 hc24 hc25 hc26 hc27 hz28 hz29 hz30
    go_wp2_with fail
    refine bodyPost_ret (results_ctY rfl _ _ w.heap.size #[.int .i64 0, .int .i64 0, .string ⟨#[]⟩] rfl (run_loadVar_row _ w.heap.size 24 24 _ (0, 0) _ Z1.out Tryd.underlying24 rfl (info_val _ _ _))) rfl ?_
    exact ⟨by rw [HW.out]; rfl, Z3.out⟩
namespace LValueTakes
theorem atB (w : World) (B : Nat) (S : ByteArray) (q : Nat) (er : Int) (h : Sc w B true S q er) : Calls Tryd.prog 21 #[.pointer (some ⟨B, 0, none⟩)] w fun e w' => e = .returned (.int .i64 (q : Int)) ∧ Below w.heap.size w w' := (at_any w B true S q er h).mono fun _ _ h => ⟨h.1, by rw [← h.2]; exact Below.refl _ _⟩
theorem errB (w : World) (B : Nat) (S : ByteArray) (q : Nat) (er : Int) (h : Sc w B true S q er) : Calls Tryd.prog 20 #[.pointer (some ⟨B, 0, none⟩)] w fun e w' => e = .returned (.int .i64 er) ∧ Below w.heap.size w w' := (errZ w B S q er h).mono fun _ _ h => ⟨h.1, by rw [← h.2]; exact Below.refl _ _⟩
theorem scR {w : World} {B : Nat} {S : ByteArray} {q : Nat} {er : Int} (h : Sc w B true S q er) (d : Nat) (os : Array Obj) : Sc (Sort.grow (redrawn w d) os) B true S q er := h.kept ((below_regrown w d os).block B h.lt)
set_option maxHeartbeats 4000000 in
set_option maxRecDepth 100000 in
theorem walk (S : ByteArray) (w : World) :
    Calls Tryd.prog 3 #[.string S] w fun e w' => e = .returned (.bool true) ∧ Below w.heap.size w w' := by
  by_cases h1 : S.size ≤ 1000
  · have hd : decide ((1000 : Int) < (S.size : Int)) = false := decide_eq_false (by omega)
    have HT1 := Lib.hid (fun W : World => vtake_any S W (by omega))
    have HT2 := Lib.hid (fun W : World => rvtake_any S W (by omega))
    have HR1 := Lib.hid (fun (W : World) (B : Nat) (h : Sc W B true S 0 0) => vread_any W B S 0 0 (by omega) (Nat.zero_le _) h)
    have HR2 := Lib.hid (fun W : World => rvread_any S 0 0 W (by omega) (Nat.zero_le _))
    obtain ⟨k, n, t, hv⟩ : ∃ k n t, rvV S 0 0 = (k, n, t) := ⟨_, _, _, rfl⟩
    obtain ⟨k2, n2, t2, hv2⟩ : ∃ k n t, tkV S = (k, n, t) := ⟨_, _, _, rfl⟩
    rw [hv2] at HT1 HT2
    rw [hv] at HR1 HR2
    unfold vvv at HT1 HT2 HR1 HR2
    dsimp only at HT1 HT2 HR1 HR2
    generalize tkE S = f at HT1 HT2
    generalize (rvM S 0 0).2.2.2.1 = q at HR1 HR2
    generalize rvE S 0 0 = e3 at HR1 HR2
    clear hv hv2 h1
    have HB1 := Lib.hid (Below.refl w.heap.size w)
    go_enter Tryd.func3, Tryd.ntmps3
    go_wp2_with fail
    refine (HT1.out w).mono ?_
    rintro e w1 ⟨rfl, hb1⟩
    have HB2 := Lib.hid (HB1.out.trans (hb1.mono HB1.out.size))
    clear hb1 HB1 
    have HF3 := Lib.hid (blk_new w1 (.cells #[.int .i64 k2, .int .i64 n2, .string t2] 24 (0, 0)))
    have HB4 := Lib.hid (HB2.out.alloc HB2.out.size (.cells #[.int .i64 k2, .int .i64 n2, .string t2] 24 (0, 0)))
    clear HB2
    go_wp2_with fail
    refine (HT2.out (w1.alloc (.cells #[.int .i64 k2, .int .i64 n2, .string t2] 24 (0, 0)))).mono ?_
    rintro e w2 ⟨rfl, hb2⟩
    have HF5 := Lib.hid (blk_below HF3.out hb2)
    have HB6 := Lib.hid (HB4.out.trans (hb2.mono HB4.out.size))
    clear hb2 HB4 HF3
    have hk7 : w1.heap.size < w2.heap.size := lt_of_block HF5.out
    have HF8 := Lib.hid (blk_alloc HF5.out (.cells #[.int .i64 k2, .int .i64 n2, .string t2] 24 (0, 0)))
    have HF9 := Lib.hid (blk_new w2 (.cells #[.int .i64 k2, .int .i64 n2, .string t2] 24 (0, 0)))
    have HB10 := Lib.hid (HB6.out.alloc HB6.out.size (.cells #[.int .i64 k2, .int .i64 n2, .string t2] 24 (0, 0)))
    clear HB6
    go_wp2_with fail
    refine (new_any S (w2.alloc (.cells #[.int .i64 k2, .int .i64 n2, .string t2] 24 (0, 0)))).mono ?_
    rintro e w3 ⟨rfl, hs, hb⟩
    obtain ⟨B, hBe⟩ : ∃ B, B = (w2.alloc (.cells #[.int .i64 k2, .int .i64 n2, .string t2] 24 (0, 0))).heap.size := ⟨_, rfl⟩
    rw [← hBe] at hs
    have HF11 := Lib.hid (blk_below HF8.out hb)
    have hk12 : w1.heap.size < B := by rw [hBe]; exact lt_of_block HF8.out
    have HF13 := Lib.hid (blk_below HF9.out hb)
    have hk14 : w2.heap.size < B := by rw [hBe]; exact lt_of_block HF9.out
    have HB15 := Lib.hid (HB10.out.trans (hb.mono HB10.out.size))
    have hBw : w.heap.size ≤ B := by rw [hBe]; exact HB10.out.size
    have HBE := Lib.hid hBe
    have HS := Lib.hid hs
    clear hb hs hBe HB10 HF8 HF5 HF9
    rw [← HBE.out]
    go_wp2_with fail
    refine (HR1.out w3 _ HS.out).mono ?_
    rintro e w4 ⟨rfl, hs, hk⟩
    have HF16 := Lib.hid (blk_but HF11.out hk (by omega))
    have HF17 := Lib.hid (blk_but HF13.out hk (by omega))
    have HB18 := Lib.hid (But.below HB15.out hk hBw HB15.out.size)
    clear hk HS HB15 HF11 HF13
    have HS := Lib.hid hs
    clear hs
    have hk19 : w1.heap.size < w4.heap.size := lt_of_block HF16.out
    have hk20 : w2.heap.size < w4.heap.size := lt_of_block HF17.out
    have HS2 := Lib.hid (HS.out.alloc (.cells #[.int .i64 k, .int .i64 n, .string t] 24 (0, 0)))
    have HF21 := Lib.hid (blk_alloc HF16.out (.cells #[.int .i64 k, .int .i64 n, .string t] 24 (0, 0)))
    have HF22 := Lib.hid (blk_alloc HF17.out (.cells #[.int .i64 k, .int .i64 n, .string t] 24 (0, 0)))
    have HF23 := Lib.hid (blk_new w4 (.cells #[.int .i64 k, .int .i64 n, .string t] 24 (0, 0)))
    have HB24 := Lib.hid (HB18.out.alloc HB18.out.size (.cells #[.int .i64 k, .int .i64 n, .string t] 24 (0, 0)))
    clear HB18
    go_wp2_with fail
    refine (HR2.out (w4.alloc (.cells #[.int .i64 k, .int .i64 n, .string t] 24 (0, 0)))).mono ?_
    rintro e w5 ⟨rfl, hb5⟩
    have HF25 := Lib.hid (blk_below HF21.out hb5)
    have HF26 := Lib.hid (blk_below HF22.out hb5)
    have HF27 := Lib.hid (blk_below HF23.out hb5)
    have HB28 := Lib.hid (HB24.out.trans (hb5.mono HB24.out.size))
    have HS3 := Lib.hid (HS2.out.kept (hb5.block B HS2.out.lt))
    clear hb5 HB24 HF21 HF16 HF22 HF17 HF23
    have hk29 : w1.heap.size < w5.heap.size := lt_of_block HF25.out
    have hk30 : w2.heap.size < w5.heap.size := lt_of_block HF26.out
    have hk31 : w4.heap.size < w5.heap.size := lt_of_block HF27.out
    have HS4 := Lib.hid ((HS3.out.alloc (.cells #[.string S, .int .i64 (q : Int), .int .i64 e3] 34 (0, 0))).alloc (.cells #[.int .i64 k, .int .i64 n, .string t] 24 (0, 0)))
    have HF32 := Lib.hid (blk_alloc HF25.out (.cells #[.string S, .int .i64 (q : Int), .int .i64 e3] 34 (0, 0)))
    have HF33 := Lib.hid (blk_alloc HF26.out (.cells #[.string S, .int .i64 (q : Int), .int .i64 e3] 34 (0, 0)))
    have HF34 := Lib.hid (blk_alloc HF27.out (.cells #[.string S, .int .i64 (q : Int), .int .i64 e3] 34 (0, 0)))
    have HF35 := Lib.hid (blk_new w5 (.cells #[.string S, .int .i64 (q : Int), .int .i64 e3] 34 (0, 0)))
    have HB36 := Lib.hid (HB28.out.alloc HB28.out.size (.cells #[.string S, .int .i64 (q : Int), .int .i64 e3] 34 (0, 0)))
    clear HB28
    have HF37 := Lib.hid (blk_alloc HF32.out (.cells #[.int .i64 k, .int .i64 n, .string t] 24 (0, 0)))
    clear HF32
    have HF38 := Lib.hid (blk_alloc HF33.out (.cells #[.int .i64 k, .int .i64 n, .string t] 24 (0, 0)))
    clear HF33
    have HF39 := Lib.hid (blk_alloc HF34.out (.cells #[.int .i64 k, .int .i64 n, .string t] 24 (0, 0)))
    clear HF34
    have HF40 := Lib.hid (blk_alloc HF35.out (.cells #[.int .i64 k, .int .i64 n, .string t] 24 (0, 0)))
    clear HF35
    have HF41 : Hid (((w5.alloc (.cells #[.string S, .int .i64 (q : Int), .int .i64 e3] 34 (0, 0))).alloc (.cells #[.int .i64 k, .int .i64 n, .string t] 24 (0, 0))).heap[w5.heap.size + 1]? = some (.cells #[.int .i64 k, .int .i64 n, .string t] 24 (0, 0))) := Lib.hid (blk_newN (W := (w5.alloc (.cells #[.string S, .int .i64 (q : Int), .int .i64 e3] 34 (0, 0)))) (o := (.cells #[.int .i64 k, .int .i64 n, .string t] 24 (0, 0))) (by simp))
    have HB42 := Lib.hid (HB36.out.alloc (by have := HB36.out.size; simp at this ⊢ <;> omega) (.cells #[.int .i64 k, .int .i64 n, .string t] 24 (0, 0)))
    clear HB36
    go_upto_region 8 with (fail)
    obtain ⟨W5, hW5⟩ : ∃ W5, W5 = ((w5.alloc (.cells #[.string S, .int .i64 (q : Int), .int .i64 e3] 34 (0, 0))).alloc (.cells #[.int .i64 k, .int .i64 n, .string t] 24 (0, 0))) := ⟨_, rfl⟩
    rw [← hW5]
    have HF43 := Lib.hid (show W5.heap[w1.heap.size]? = some (.cells #[.int .i64 k2, .int .i64 n2, .string t2] 24 (0, 0)) by rw [hW5]; exact HF37.out)
    clear HF37
    have HF44 := Lib.hid (show W5.heap[w2.heap.size]? = some (.cells #[.int .i64 k2, .int .i64 n2, .string t2] 24 (0, 0)) by rw [hW5]; exact HF38.out)
    clear HF38
    have HF45 := Lib.hid (show W5.heap[w4.heap.size]? = some (.cells #[.int .i64 k, .int .i64 n, .string t] 24 (0, 0)) by rw [hW5]; exact HF39.out)
    clear HF39
    have HF46 := Lib.hid (show W5.heap[w5.heap.size]? = some (.cells #[.string S, .int .i64 (q : Int), .int .i64 e3] 34 (0, 0)) by rw [hW5]; exact HF40.out)
    clear HF40
    have HF47 := Lib.hid (show W5.heap[w5.heap.size + 1]? = some (.cells #[.int .i64 k, .int .i64 n, .string t] 24 (0, 0)) by rw [hW5]; exact HF41.out)
    clear HF41
    have HB48 := Lib.hid (show Below w.heap.size w W5 by rw [hW5]; exact HB42.out)
    have HS5 := Lib.hid (show Sc W5 B true S q e3 by rw [hW5]; exact HS4.out)
    clear hW5 HS HS2 HS3 HS4
    have hc49 : W5.cell? ⟨w1.heap.size, 0, none⟩ = some (.int .i64 k2) := by rw [cell_of_row _ _ _ _ _ _ HF43.out]; rfl
    have hc50 : W5.cell? ⟨w1.heap.size, 1, none⟩ = some (.int .i64 n2) := by rw [cell_of_row _ _ _ _ _ _ HF43.out]; rfl
    have hc51 : W5.cell? ⟨w1.heap.size, 2, none⟩ = some (.string t2) := by rw [cell_of_row _ _ _ _ _ _ HF43.out]; rfl
    have hc52 : W5.cell? ⟨w2.heap.size, 0, none⟩ = some (.int .i64 k2) := by rw [cell_of_row _ _ _ _ _ _ HF44.out]; rfl
    have hc53 : W5.cell? ⟨w2.heap.size, 1, none⟩ = some (.int .i64 n2) := by rw [cell_of_row _ _ _ _ _ _ HF44.out]; rfl
    have hc54 : W5.cell? ⟨w2.heap.size, 2, none⟩ = some (.string t2) := by rw [cell_of_row _ _ _ _ _ _ HF44.out]; rfl
    have hc55 : W5.cell? ⟨w4.heap.size, 0, none⟩ = some (.int .i64 k) := by rw [cell_of_row _ _ _ _ _ _ HF45.out]; rfl
    have hc56 : W5.cell? ⟨w4.heap.size, 1, none⟩ = some (.int .i64 n) := by rw [cell_of_row _ _ _ _ _ _ HF45.out]; rfl
    have hc57 : W5.cell? ⟨w4.heap.size, 2, none⟩ = some (.string t) := by rw [cell_of_row _ _ _ _ _ _ HF45.out]; rfl
    have hc58 : W5.cell? ⟨w5.heap.size + 1, 0, none⟩ = some (.int .i64 k) := by rw [cell_of_row _ _ _ _ _ _ HF47.out]; rfl
    have hc59 : W5.cell? ⟨w5.heap.size + 1, 1, none⟩ = some (.int .i64 n) := by rw [cell_of_row _ _ _ _ _ _ HF47.out]; rfl
    have hc60 : W5.cell? ⟨w5.heap.size + 1, 2, none⟩ = some (.string t) := by rw [cell_of_row _ _ _ _ _ _ HF47.out]; rfl
    have hc61 : W5.cell? ⟨w5.heap.size, 1, none⟩ = some (.int .i64 (q : Int)) := by rw [cell_of_row _ _ _ _ _ _ HF46.out]; rfl
    have hc62 : W5.cell? ⟨w5.heap.size, 2, none⟩ = some (.int .i64 e3) := by rw [cell_of_row _ _ _ _ _ _ HF46.out]; rfl
    have hr63 := fun d os => cell_regrown hc49 d os
    have hr64 := fun d os => cell_regrown hc50 d os
    have hr65 := fun d os => cell_regrown hc51 d os
    have hr66 := fun d os => cell_regrown hc52 d os
    have hr67 := fun d os => cell_regrown hc53 d os
    have hr68 := fun d os => cell_regrown hc54 d os
    have hr69 := fun d os => cell_regrown hc55 d os
    have hr70 := fun d os => cell_regrown hc56 d os
    have hr71 := fun d os => cell_regrown hc57 d os
    have hr72 := fun d os => cell_regrown hc58 d os
    have hr73 := fun d os => cell_regrown hc59 d os
    have hr74 := fun d os => cell_regrown hc60 d os
    have hr75 := fun d os => cell_regrown hc61 d os
    have hr76 := fun d os => cell_regrown hc62 d os
    refine wp_region_quiet_below (by kernel_rfl) (by kernel_rfl) ?_
    repeat (any_goals (first | go_big_quiet_step ((first | (go_at_call 20; exact Calls.regrown_of (errB _ _ _ _ _ (scR HS5.out _ _))) | (go_at_call 21; exact Calls.regrown_of (atB _ _ _ _ _ (scR HS5.out _ _))) | (go_at_call 14; exact Calls.regrown_of (awake06 _)))) | quiet_step ((first | (go_at_call 20; exact Calls.regrown_of (errB _ _ _ _ _ (scR HS5.out _ _))) | (go_at_call 21; exact Calls.regrown_of (atB _ _ _ _ _ (scR HS5.out _ _))) | (go_at_call 14; exact Calls.regrown_of (awake06 _))))))
    refine wpQuiet_nil ?_
    intro w6 hw6
    have hb6 := below_anyY hw6
    clear hw6 hr63 hr64 hr65 hr66 hr67 hr68 hr69 hr70 hr71 hr72 hr73 hr74 hr75 hr76
    clear hc49 hc50 hc51 hc52 hc53 hc54 hc55 hc56 hc57 hc58 hc59 hc60 hc61 hc62
    have HF77 := Lib.hid (blk_below HF43.out hb6)
    have HF78 := Lib.hid (blk_below HF44.out hb6)
    have HF79 := Lib.hid (blk_below HF45.out hb6)
    have HF80 := Lib.hid (blk_below HF46.out hb6)
    have HF81 := Lib.hid (blk_below HF47.out hb6)
    have HB82 := Lib.hid (HB48.out.trans (hb6.mono HB48.out.size))
    clear hb6 HB48 HF43 HF44 HF45 HF46 HF47
    go_wp2_with fail
    go_ret
    exact ⟨rfl, HB82.out⟩
  · have hd : decide ((1000 : Int) < (S.size : Int)) = true := decide_eq_true (by omega)
    clear h1
    have HB1 := Lib.hid (Below.refl w.heap.size w)
    go_enter Tryd.func3, Tryd.ntmps3
    go_wp2_with fail
    refine (awake06 w).mono ?_
    rintro e w1 ⟨rfl, hb1⟩
    have HB2 := Lib.hid (HB1.out.trans (hb1.mono HB1.out.size))
    clear hb1 HB1 
    go_wp2_with fail
    go_ret
    exact ⟨rfl, HB2.out⟩
end LValueTakes
end Go.Proofs.YtcgoegehgcecpaaDoor
