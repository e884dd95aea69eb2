/- The disk family, merged for a claim. Conditions as in its parts. -/
import Derived.Test.YtiagbadnmkeokaaDNd
import Derived.Laws.MakeOwn
import Derived.Test.YtiagbadnmkeokaaSr
import Derived.Laws.CopyOwn
namespace Go.Proofs.Ytiagbadnmkeokaa
open Go.RowKit Vi

/-- the sectors that are safe behind a flush -/
def flsS (ar : Int) (SS : List ByteArray) (CC : List Wr) : List ByteArray := if ar = 1 then SS else setP allK 0 CC SS
set_option maxRecDepth 100000 in
set_option maxHeartbeats 4000000 in
theorem rwrite_out (P : Nat → Prop) (SS : List ByteArray) (CC : List Wr) (ar : Int) (op : Int) (A : Option Addr) (n c : Nat) (A2 : Option Addr) (n2 c2 : Nat) (i : Int) (s : ByteArray) (w : World) (h1 : RdP P stC 1 w A n SS) (h2 : RdP P wrC 2 w A2 n2 CC) (hi : ¬ (0 ≤ i ∧ i < (SS.length : Int))) :
    Calls Try.prog 45 #[rdv A n c A2 n2 c2 ar false op, .int .i64 i, .string s] w (RetDI P ⟨SS, CC, ar, false, op⟩ 8 w) := by
  have H1 := Lib.hid h1
  have H2 := Lib.hid h2
  have HL := Lib.hid h1.1.1
  clear h1 h2
  have HD := Lib.hid (show decide (0 ≤ i ∧ i < (n : Int)) = false from decide_eq_false (by rw [← HL.out]; exact hi))
  clear hi
  have HB1 := Lib.hid (Below.refl w.heap.size w)
  have HF2 := Lib.hid (blk_new w (.cells #[.slice A n c, .slice A2 n2 c2, .int .i64 ar, .bool false, .int .i64 op] 35 (0, 0)))
  have HB3 := Lib.hid (HB1.out.alloc HB1.out.size (.cells #[.slice A n c, .slice A2 n2 c2, .int .i64 ar, .bool false, .int .i64 op] 35 (0, 0)))
  clear HB1
  have HF4 := Lib.hid (blk_alloc HF2.out (.cells #[.slice none 0 0, .slice none 0 0, .int .i64 0, .bool false, .int .i64 0] 35 (0, 0)))
  clear HF2
  have HF5 : Hid (((w.alloc (.cells #[.slice A n c, .slice A2 n2 c2, .int .i64 ar, .bool false, .int .i64 op] 35 (0, 0))).alloc (.cells #[.slice none 0 0, .slice none 0 0, .int .i64 0, .bool false, .int .i64 0] 35 (0, 0))).heap[w.heap.size + 1]? = some (.cells #[.slice none 0 0, .slice none 0 0, .int .i64 0, .bool false, .int .i64 0] 35 (0, 0))) := Lib.hid (blk_newN (W := (w.alloc (.cells #[.slice A n c, .slice A2 n2 c2, .int .i64 ar, .bool false, .int .i64 op] 35 (0, 0)))) (o := (.cells #[.slice none 0 0, .slice none 0 0, .int .i64 0, .bool false, .int .i64 0] 35 (0, 0))) (by simp))
  have HB6 := Lib.hid (HB3.out.alloc (by have := HB3.out.size; simp at this ⊢ <;> omega) (.cells #[.slice none 0 0, .slice none 0 0, .int .i64 0, .bool false, .int .i64 0] 35 (0, 0)))
  clear HB3
  obtain ⟨v, hv⟩ : ∃ v, v = ((w.alloc (.cells #[.slice A n c, .slice A2 n2 c2, .int .i64 ar, .bool false, .int .i64 op] 35 (0, 0))).alloc (.cells #[.slice none 0 0, .slice none 0 0, .int .i64 0, .bool false, .int .i64 0] 35 (0, 0))) := ⟨_, rfl⟩
  have HVv := Lib.hid hv
  rw [← hv] at HF4 HF5 HB6
  clear hv
  go_enter Try.func45, Try.ntmps45
  go_upto_region 1 with (fail)
  rw [← HVv.out]
  have hc7 : v.cell? ⟨w.heap.size, 3, none⟩ = some (.bool false) := by rw [cell_of_row _ _ _ _ _ _ HF4.out]; rfl
  have HIN := Lib.hid (rin_any A n c A2 n2 c2 ar false op i v)
  rw [HD.out] at HIN
  go_wp2_with (refine wpList_load_row rfl 35 (.tmp 3) rfl (w.heap.size) rfl 35 #[.slice A n c, .slice A2 n2 c2, .int .i64 ar, .bool false, .int .i64 op] (0, 0) _ HF4.out Try.underlying35 rfl (info_rd) ?_)
  refine (HIN.out).mono ?_
  rintro e w1 ⟨rfl, hb1⟩
  clear hc7
  have HF8 := Lib.hid (blk_below HF4.out hb1)
  have HF9 := Lib.hid (blk_below HF5.out hb1)
  have HB10 := Lib.hid (HB6.out.trans (hb1.mono HB6.out.size))
  clear hb1 HB6 HF4 HF5
  clear HIN
  go_upto_region 4 with (fail)
  go_wp2_with (first
    | refine wpList_store_rowY rfl 35 (.tmp 6) (.tmp 16) rfl (w.heap.size + 1) #[.slice A n c, .slice A2 n2 c2, .int .i64 ar, .bool false, .int .i64 op] rfl rfl 35 _ HF9.out (info_rd) rfl (by simp [Value.oneCell']) w.heap.size w HB10.out (by omega) ?_
    | refine wpList_load_row rfl 35 (.tmp 3) rfl (w.heap.size) rfl 35 #[.slice A n c, .slice A2 n2 c2, .int .i64 ar, .bool false, .int .i64 op] (0, 0) _ HF8.out Try.underlying35 rfl (info_rd) ?_)
  intro w2 hbk hoth hbel _
  have HF11 := Lib.hid (blk_oth HF8.out hoth.out (by omega))
  have HF12 := Lib.hid hbk.out
  have HB13 := Lib.hid hbel.out
  clear hbk hoth hbel HB10 HF8 HF9
  go_wp2_with fail
  refine bodyPost_ret (results_ctY rfl _ _ (w.heap.size + 1) #[.slice A n c, .slice A2 n2 c2, .int .i64 ar, .bool false, .int .i64 op] rfl (run_loadVar_row _ (w.heap.size + 1) 35 35 _ (0, 0) _ HF12.out Try.underlying35 rfl (by kernel_rfl))) rfl ?_
  exact ⟨_, rfl, ⟨A, n, c, A2, n2, c2, rfl, H1.out.below HB13.out, H2.out.below HB13.out⟩, HB13.out⟩
set_option maxRecDepth 100000 in
set_option maxHeartbeats 4000000 in
theorem rwrite_len (P : Nat → Prop) (SS : List ByteArray) (CC : List Wr) (ar : Int) (op : Int) (A : Option Addr) (n c : Nat) (A2 : Option Addr) (n2 c2 : Nat) (i : Int) (s : ByteArray) (w : World) (h1 : RdP P stC 1 w A n SS) (h2 : RdP P wrC 2 w A2 n2 CC) (hi : 0 ≤ i ∧ i < (SS.length : Int)) (hs : s.size ≠ 128) :
    Calls Try.prog 45 #[rdv A n c A2 n2 c2 ar false op, .int .i64 i, .string s] w (RetDI P ⟨SS, CC, ar, false, op⟩ 2 w) := by
  have H1 := Lib.hid h1
  have H2 := Lib.hid h2
  have HL := Lib.hid h1.1.1
  clear h1 h2
  have HD := Lib.hid (show decide (0 ≤ i ∧ i < (n : Int)) = true from decide_eq_true (by rw [← HL.out]; exact hi))
  have d1 : ((s.size : Int) != 128) = true := by simp; omega
  clear hi hs
  have HB1 := Lib.hid (Below.refl w.heap.size w)
  have HF2 := Lib.hid (blk_new w (.cells #[.slice A n c, .slice A2 n2 c2, .int .i64 ar, .bool false, .int .i64 op] 35 (0, 0)))
  have HB3 := Lib.hid (HB1.out.alloc HB1.out.size (.cells #[.slice A n c, .slice A2 n2 c2, .int .i64 ar, .bool false, .int .i64 op] 35 (0, 0)))
  clear HB1
  have HF4 := Lib.hid (blk_alloc HF2.out (.cells #[.slice none 0 0, .slice none 0 0, .int .i64 0, .bool false, .int .i64 0] 35 (0, 0)))
  clear HF2
  have HF5 : Hid (((w.alloc (.cells #[.slice A n c, .slice A2 n2 c2, .int .i64 ar, .bool false, .int .i64 op] 35 (0, 0))).alloc (.cells #[.slice none 0 0, .slice none 0 0, .int .i64 0, .bool false, .int .i64 0] 35 (0, 0))).heap[w.heap.size + 1]? = some (.cells #[.slice none 0 0, .slice none 0 0, .int .i64 0, .bool false, .int .i64 0] 35 (0, 0))) := Lib.hid (blk_newN (W := (w.alloc (.cells #[.slice A n c, .slice A2 n2 c2, .int .i64 ar, .bool false, .int .i64 op] 35 (0, 0)))) (o := (.cells #[.slice none 0 0, .slice none 0 0, .int .i64 0, .bool false, .int .i64 0] 35 (0, 0))) (by simp))
  have HB6 := Lib.hid (HB3.out.alloc (by have := HB3.out.size; simp at this ⊢ <;> omega) (.cells #[.slice none 0 0, .slice none 0 0, .int .i64 0, .bool false, .int .i64 0] 35 (0, 0)))
  clear HB3
  obtain ⟨v, hv⟩ : ∃ v, v = ((w.alloc (.cells #[.slice A n c, .slice A2 n2 c2, .int .i64 ar, .bool false, .int .i64 op] 35 (0, 0))).alloc (.cells #[.slice none 0 0, .slice none 0 0, .int .i64 0, .bool false, .int .i64 0] 35 (0, 0))) := ⟨_, rfl⟩
  have HVv := Lib.hid hv
  rw [← hv] at HF4 HF5 HB6
  clear hv
  go_enter Try.func45, Try.ntmps45
  go_upto_region 1 with (fail)
  rw [← HVv.out]
  have hc7 : v.cell? ⟨w.heap.size, 3, none⟩ = some (.bool false) := by rw [cell_of_row _ _ _ _ _ _ HF4.out]; rfl
  have HIN := Lib.hid (rin_any A n c A2 n2 c2 ar false op i v)
  rw [HD.out] at HIN
  go_wp2_with (refine wpList_load_row rfl 35 (.tmp 3) rfl (w.heap.size) rfl 35 #[.slice A n c, .slice A2 n2 c2, .int .i64 ar, .bool false, .int .i64 op] (0, 0) _ HF4.out Try.underlying35 rfl (info_rd) ?_)
  refine (HIN.out).mono ?_
  rintro e w1 ⟨rfl, hb1⟩
  clear hc7
  have HF8 := Lib.hid (blk_below HF4.out hb1)
  have HF9 := Lib.hid (blk_below HF5.out hb1)
  have HB10 := Lib.hid (HB6.out.trans (hb1.mono HB6.out.size))
  clear hb1 HB6 HF4 HF5
  clear HIN
  go_upto_region 6 with (fail)
  go_wp2_with (first
    | refine wpList_store_rowY rfl 35 (.tmp 6) (.tmp 20) rfl (w.heap.size + 1) #[.slice A n c, .slice A2 n2 c2, .int .i64 ar, .bool false, .int .i64 op] rfl rfl 35 _ HF9.out (info_rd) rfl (by simp [Value.oneCell']) w.heap.size w HB10.out (by omega) ?_
    | refine wpList_load_row rfl 35 (.tmp 3) rfl (w.heap.size) rfl 35 #[.slice A n c, .slice A2 n2 c2, .int .i64 ar, .bool false, .int .i64 op] (0, 0) _ HF8.out Try.underlying35 rfl (info_rd) ?_)
  intro w2 hbk hoth hbel _
  have HF11 := Lib.hid (blk_oth HF8.out hoth.out (by omega))
  have HF12 := Lib.hid hbk.out
  have HB13 := Lib.hid hbel.out
  clear hbk hoth hbel HB10 HF8 HF9
  go_wp2_with fail
  refine bodyPost_ret (results_ctY rfl _ _ (w.heap.size + 1) #[.slice A n c, .slice A2 n2 c2, .int .i64 ar, .bool false, .int .i64 op] rfl (run_loadVar_row _ (w.heap.size + 1) 35 35 _ (0, 0) _ HF12.out Try.underlying35 rfl (by kernel_rfl))) rfl ?_
  exact ⟨_, rfl, ⟨A, n, c, A2, n2, c2, rfl, H1.out.below HB13.out, H2.out.below HB13.out⟩, HB13.out⟩
set_option maxRecDepth 100000 in
set_option maxHeartbeats 4000000 in
theorem rwrite_up (P : Nat → Prop) (SS : List ByteArray) (CC : List Wr) (ar : Int) (op : Int) (A : Option Addr) (n c : Nat) (A2 : Option Addr) (n2 c2 : Nat) (i : Int) (s : ByteArray) (w : World) (h1 : RdP P stC 1 w A n SS) (h2 : RdP P wrC 2 w A2 n2 CC) (hi : 0 ≤ i ∧ i < (SS.length : Int)) (hs : s.size = 128) (ha : 0 ≤ ar ∧ ar ≤ 9223372036854775807) (ho : -1000000000 ≤ op ∧ op ≤ 1000000000) (hn : n ≤ 100000) (hn2 : n2 ≤ 100000) (hP : ∀ b, w.heap.size ≤ b → P b) :
    Calls Try.prog 45 #[rdv A n c A2 n2 c2 ar false op, .int .i64 i, .string s] w (RetDI P ⟨SS, wrtC ar CC i s, stpF ar, stpD ar, stpO op ar⟩ (stpE ar) w) := by
  have H1 := Lib.hid h1
  have H2 := Lib.hid h2
  have HL := Lib.hid h1.1.1
  clear h1 h2
  have HD := Lib.hid (show decide (0 ≤ i ∧ i < (n : Int)) = true from decide_eq_true (by rw [← HL.out]; exact hi))
  have d1 : ((s.size : Int) != 128) = false := by simp; omega
  have HP := Lib.hid hP
  have hcl : CC.length ≤ 100000 := by have := H2.out.1.1; omega
  clear hi hs hP
  by_cases hq : ar = 1
  · have HD2 := Lib.hid (show decide (ar = 1) = true from decide_eq_true hq)
    have HE1 := Lib.hid (show wrtC ar CC i s = CC by unfold wrtC; rw [if_pos hq])
    have HE2 := Lib.hid (show stpE ar = 7 by unfold stpE; rw [if_pos hq])
    clear hq
    have HB1 := Lib.hid (Below.refl w.heap.size w)
    have HF2 := Lib.hid (blk_new w (.cells #[.slice A n c, .slice A2 n2 c2, .int .i64 ar, .bool false, .int .i64 op] 35 (0, 0)))
    have HB3 := Lib.hid (HB1.out.alloc HB1.out.size (.cells #[.slice A n c, .slice A2 n2 c2, .int .i64 ar, .bool false, .int .i64 op] 35 (0, 0)))
    clear HB1
    have HF4 := Lib.hid (blk_alloc HF2.out (.cells #[.slice none 0 0, .slice none 0 0, .int .i64 0, .bool false, .int .i64 0] 35 (0, 0)))
    clear HF2
    have HF5 : Hid (((w.alloc (.cells #[.slice A n c, .slice A2 n2 c2, .int .i64 ar, .bool false, .int .i64 op] 35 (0, 0))).alloc (.cells #[.slice none 0 0, .slice none 0 0, .int .i64 0, .bool false, .int .i64 0] 35 (0, 0))).heap[w.heap.size + 1]? = some (.cells #[.slice none 0 0, .slice none 0 0, .int .i64 0, .bool false, .int .i64 0] 35 (0, 0))) := Lib.hid (blk_newN (W := (w.alloc (.cells #[.slice A n c, .slice A2 n2 c2, .int .i64 ar, .bool false, .int .i64 op] 35 (0, 0)))) (o := (.cells #[.slice none 0 0, .slice none 0 0, .int .i64 0, .bool false, .int .i64 0] 35 (0, 0))) (by simp))
    have HB6 := Lib.hid (HB3.out.alloc (by have := HB3.out.size; simp at this ⊢ <;> omega) (.cells #[.slice none 0 0, .slice none 0 0, .int .i64 0, .bool false, .int .i64 0] 35 (0, 0)))
    clear HB3
    obtain ⟨v, hv⟩ : ∃ v, v = ((w.alloc (.cells #[.slice A n c, .slice A2 n2 c2, .int .i64 ar, .bool false, .int .i64 op] 35 (0, 0))).alloc (.cells #[.slice none 0 0, .slice none 0 0, .int .i64 0, .bool false, .int .i64 0] 35 (0, 0))) := ⟨_, rfl⟩
    have HVv := Lib.hid hv
    rw [← hv] at HF4 HF5 HB6
    clear hv
    go_enter Try.func45, Try.ntmps45
    go_upto_region 1 with (fail)
    rw [← HVv.out]
    have hc7 : v.cell? ⟨w.heap.size, 3, none⟩ = some (.bool false) := by rw [cell_of_row _ _ _ _ _ _ HF4.out]; rfl
    have HIN := Lib.hid (rin_any A n c A2 n2 c2 ar false op i v)
    rw [HD.out] at HIN
    go_wp2_with (refine wpList_load_row rfl 35 (.tmp 3) rfl (w.heap.size) rfl 35 #[.slice A n c, .slice A2 n2 c2, .int .i64 ar, .bool false, .int .i64 op] (0, 0) _ HF4.out Try.underlying35 rfl (info_rd) ?_)
    refine (HIN.out).mono ?_
    rintro e w1 ⟨rfl, hb1⟩
    clear hc7
    have HF8 := Lib.hid (blk_below HF4.out hb1)
    have HF9 := Lib.hid (blk_below HF5.out hb1)
    have HB10 := Lib.hid (HB6.out.trans (hb1.mono HB6.out.size))
    clear hb1 HB6 HF4 HF5
    clear HIN
    have HST := rstep_any ⟨SS, CC, ar, false, op⟩ A n c A2 n2 c2 w1 ha ho
    unfold StepP at HST
    rw [step_false] at HST
    dsimp only at HST
    rw [HD2.out] at HST
    have HST := Lib.hid HST
    go_wp2_with (refine wpList_load_row rfl 35 (.tmp 3) rfl (w.heap.size) rfl 35 #[.slice A n c, .slice A2 n2 c2, .int .i64 ar, .bool false, .int .i64 op] (0, 0) _ HF8.out Try.underlying35 rfl (info_rd) ?_)
    refine (HST.out).mono ?_
    rintro e w2 ⟨rfl, hb2⟩
    have HF11 := Lib.hid (blk_below HF8.out hb2)
    have HF12 := Lib.hid (blk_below HF9.out hb2)
    have HB13 := Lib.hid (HB10.out.trans (hb2.mono HB10.out.size))
    clear hb2 HB10 HF8 HF9
    clear HST
    go_wp2_with (first
      | refine wpList_store_rowY rfl 35 (.tmp 3) (.tmp 24) rfl (w.heap.size) #[.slice A n c, .slice A2 n2 c2, .int .i64 (stpF ar), .bool (stpD ar), .int .i64 (stpO op ar)] rfl rfl 35 _ HF11.out (info_rd) rfl (by simp [Value.oneCell']) w.heap.size w HB13.out (by omega) ?_)
    intro w3 hbk hoth hbel _
    have HF14 := Lib.hid hbk.out
    have HF15 := Lib.hid (blk_oth HF12.out hoth.out (by omega))
    have HB16 := Lib.hid hbel.out
    clear hbk hoth hbel HB13 HF11 HF12
    go_upto_region 9 with (fail)
    go_wp2_with (first
      | refine wpList_store_rowY rfl 35 (.tmp 6) (.tmp 27) rfl (w.heap.size + 1) #[.slice A n c, .slice A2 n2 c2, .int .i64 (stpF ar), .bool (stpD ar), .int .i64 (stpO op ar)] rfl rfl 35 _ HF15.out (info_rd) rfl (by simp [Value.oneCell']) w.heap.size w HB16.out (by omega) ?_
      | refine wpList_load_row rfl 35 (.tmp 3) rfl (w.heap.size) rfl 35 #[.slice A n c, .slice A2 n2 c2, .int .i64 (stpF ar), .bool (stpD ar), .int .i64 (stpO op ar)] (0, 0) _ HF14.out Try.underlying35 rfl (info_rd) ?_)
    intro w4 hbk hoth hbel _
    have HF17 := Lib.hid (blk_oth HF14.out hoth.out (by omega))
    have HF18 := Lib.hid hbk.out
    have HB19 := Lib.hid hbel.out
    clear hbk hoth hbel HB16 HF14 HF15
    go_wp2_with fail
    rw [HE1.out, HE2.out]
    refine bodyPost_ret (results_ctY rfl _ _ (w.heap.size + 1) #[.slice A n c, .slice A2 n2 c2, .int .i64 (stpF ar), .bool (stpD ar), .int .i64 (stpO op ar)] rfl (run_loadVar_row _ (w.heap.size + 1) 35 35 _ (0, 0) _ HF18.out Try.underlying35 rfl (by kernel_rfl))) rfl ?_
    exact ⟨_, rfl, ⟨A, n, c, A2, n2, c2, rfl, H1.out.below HB19.out, H2.out.below HB19.out⟩, HB19.out⟩
  · have HD2 := Lib.hid (show decide (ar = 1) = false from decide_eq_false hq)
    have HE1 := Lib.hid (show wrtC ar CC i s = CC ++ [(i, s)] by unfold wrtC; rw [if_neg hq])
    have HE2 := Lib.hid (show stpE ar = 0 by unfold stpE; rw [if_neg hq])
    clear hq
    have HB1 := Lib.hid (Below.refl w.heap.size w)
    have HF2 := Lib.hid (blk_new w (.cells #[.slice A n c, .slice A2 n2 c2, .int .i64 ar, .bool false, .int .i64 op] 35 (0, 0)))
    have HB3 := Lib.hid (HB1.out.alloc HB1.out.size (.cells #[.slice A n c, .slice A2 n2 c2, .int .i64 ar, .bool false, .int .i64 op] 35 (0, 0)))
    clear HB1
    have HF4 := Lib.hid (blk_alloc HF2.out (.cells #[.slice none 0 0, .slice none 0 0, .int .i64 0, .bool false, .int .i64 0] 35 (0, 0)))
    clear HF2
    have HF5 : Hid (((w.alloc (.cells #[.slice A n c, .slice A2 n2 c2, .int .i64 ar, .bool false, .int .i64 op] 35 (0, 0))).alloc (.cells #[.slice none 0 0, .slice none 0 0, .int .i64 0, .bool false, .int .i64 0] 35 (0, 0))).heap[w.heap.size + 1]? = some (.cells #[.slice none 0 0, .slice none 0 0, .int .i64 0, .bool false, .int .i64 0] 35 (0, 0))) := Lib.hid (blk_newN (W := (w.alloc (.cells #[.slice A n c, .slice A2 n2 c2, .int .i64 ar, .bool false, .int .i64 op] 35 (0, 0)))) (o := (.cells #[.slice none 0 0, .slice none 0 0, .int .i64 0, .bool false, .int .i64 0] 35 (0, 0))) (by simp))
    have HB6 := Lib.hid (HB3.out.alloc (by have := HB3.out.size; simp at this ⊢ <;> omega) (.cells #[.slice none 0 0, .slice none 0 0, .int .i64 0, .bool false, .int .i64 0] 35 (0, 0)))
    clear HB3
    obtain ⟨v, hv⟩ : ∃ v, v = ((w.alloc (.cells #[.slice A n c, .slice A2 n2 c2, .int .i64 ar, .bool false, .int .i64 op] 35 (0, 0))).alloc (.cells #[.slice none 0 0, .slice none 0 0, .int .i64 0, .bool false, .int .i64 0] 35 (0, 0))) := ⟨_, rfl⟩
    have HVv := Lib.hid hv
    rw [← hv] at HF4 HF5 HB6
    clear hv
    go_enter Try.func45, Try.ntmps45
    go_upto_region 1 with (fail)
    rw [← HVv.out]
    have hc7 : v.cell? ⟨w.heap.size, 3, none⟩ = some (.bool false) := by rw [cell_of_row _ _ _ _ _ _ HF4.out]; rfl
    have HIN := Lib.hid (rin_any A n c A2 n2 c2 ar false op i v)
    rw [HD.out] at HIN
    go_wp2_with (refine wpList_load_row rfl 35 (.tmp 3) rfl (w.heap.size) rfl 35 #[.slice A n c, .slice A2 n2 c2, .int .i64 ar, .bool false, .int .i64 op] (0, 0) _ HF4.out Try.underlying35 rfl (info_rd) ?_)
    refine (HIN.out).mono ?_
    rintro e w1 ⟨rfl, hb1⟩
    clear hc7
    have HF8 := Lib.hid (blk_below HF4.out hb1)
    have HF9 := Lib.hid (blk_below HF5.out hb1)
    have HB10 := Lib.hid (HB6.out.trans (hb1.mono HB6.out.size))
    clear hb1 HB6 HF4 HF5
    clear HIN
    have HST := rstep_any ⟨SS, CC, ar, false, op⟩ A n c A2 n2 c2 w1 ha ho
    unfold StepP at HST
    rw [step_false] at HST
    dsimp only at HST
    rw [HD2.out] at HST
    have HST := Lib.hid HST
    go_wp2_with (refine wpList_load_row rfl 35 (.tmp 3) rfl (w.heap.size) rfl 35 #[.slice A n c, .slice A2 n2 c2, .int .i64 ar, .bool false, .int .i64 op] (0, 0) _ HF8.out Try.underlying35 rfl (info_rd) ?_)
    refine (HST.out).mono ?_
    rintro e w2 ⟨rfl, hb2⟩
    have HF11 := Lib.hid (blk_below HF8.out hb2)
    have HF12 := Lib.hid (blk_below HF9.out hb2)
    have HB13 := Lib.hid (HB10.out.trans (hb2.mono HB10.out.size))
    clear hb2 HB10 HF8 HF9
    clear HST
    go_wp2_with (first
      | refine wpList_store_rowY rfl 35 (.tmp 3) (.tmp 24) rfl (w.heap.size) #[.slice A n c, .slice A2 n2 c2, .int .i64 (stpF ar), .bool (stpD ar), .int .i64 (stpO op ar)] rfl rfl 35 _ HF11.out (info_rd) rfl (by simp [Value.oneCell']) w.heap.size w HB13.out (by omega) ?_)
    intro w3 hbk hoth hbel _
    have HF14 := Lib.hid hbk.out
    have HF15 := Lib.hid (blk_oth HF12.out hoth.out (by omega))
    have HB16 := Lib.hid hbel.out
    clear hbk hoth hbel HB13 HF11 HF12
    have hc17 : w3.cell? ⟨w.heap.size, 0, none⟩ = some (.slice A n c) := by rw [cell_of_row _ _ _ _ _ _ HF14.out]; rfl
    have hc18 : w3.cell? ⟨w.heap.size, 1, none⟩ = some (.slice A2 n2 c2) := by rw [cell_of_row _ _ _ _ _ _ HF14.out]; rfl
    have HCP := Lib.hid (rcopy_any A n c A2 n2 c2 SS CC w3 (H1.out.1.below HB16.out) (H2.out.1.below HB16.out) hn hn2)
    go_wp2_with fail
    refine (HCP.out).mono ?_
    rintro e w4 ⟨B1, m1, k1, B2, m2, k2, rfl, ho1, ho2, hb4⟩
    clear hc17 hc18
    have HF19 := Lib.hid (blk_below HF14.out hb4)
    have HF20 := Lib.hid (blk_below HF15.out hb4)
    have HB21 := Lib.hid (HB16.out.trans (hb4.mono HB16.out.size))
    have HO0 := Lib.hid (ho1.mono (B' := w.heap.size) HB16.out.size)
    have HQ0 := Lib.hid (ho2.mono (B' := w.heap.size) HB16.out.size)
    clear hb4 HB16 HF14 HF15
    clear HCP ho1 ho2
    have hc22 : w4.cell? ⟨w.heap.size, 0, none⟩ = some (.slice A n c) := by rw [cell_of_row _ _ _ _ _ _ HF19.out]; rfl
    have hc23 : w4.cell? ⟨w.heap.size, 1, none⟩ = some (.slice A2 n2 c2) := by rw [cell_of_row _ _ _ _ _ _ HF19.out]; rfl
    have hz24 : w4.frozen? ⟨w.heap.size, 0, none⟩ = false := frozen_of_row _ _ _ _ _ HF19.out
    have hz25 : w4.frozen? ⟨w.heap.size, 1, none⟩ = false := frozen_of_row _ _ _ _ _ HF19.out
    go_upto_region 11 with (fail)
    clear hc22 hc23 hz24 hz25
    have HKK26 := Lib.hid (((KK.refl [w.heap.size] w4).set (b := w.heap.size) (by simp) 0 (.slice B1 m1 k1)).set (b := w.heap.size) (by simp) 1 (.slice B2 m2 k2))
    have HF27 := Lib.hid (show ((w4.setCell ⟨w.heap.size, 0, none⟩ (.slice B1 m1 k1)).setCell ⟨w.heap.size, 1, none⟩ (.slice B2 m2 k2)).heap[w.heap.size]? = some (.cells #[.slice B1 m1 k1, .slice B2 m2 k2, .int .i64 (stpF ar), .bool (stpD ar), .int .i64 (stpO op ar)] 35 (0, 0)) by have q := heap_setCell_at (i := 1) (u := .slice B2 m2 k2) (heap_setCell_at (i := 0) (u := .slice B1 m1 k1) (HF19.out)); exact q)
    have HF28 := Lib.hid (HKK26.out.blk HF20.out (by simp <;> omega))
    have HO29 := Lib.hid (HO0.out.kkD HKK26.out HF19.out (by decide))
    have HQ30 := Lib.hid (HQ0.out.kkD HKK26.out HF19.out (by decide))
    have HB31 := Lib.hid (HKK26.out.below HB21.out (fun b hb => by obtain rfl : b = w.heap.size := (by simpa using hb); omega) HB21.out.size)
    clear HB21 HF19 HF20
    generalize ((w4.setCell ⟨w.heap.size, 0, none⟩ (.slice B1 m1 k1)).setCell ⟨w.heap.size, 1, none⟩ (.slice B2 m2 k2)) = w5 at *
    have hc32 : w5.cell? ⟨w.heap.size, 1, none⟩ = some (.slice B2 m2 k2) := by rw [cell_of_row _ _ _ _ _ _ HF27.out]; rfl
    have y1 : (w5.alloc (.cells #[.int .i64 i, .string s] 91 (0, 0))).cell? ⟨w.heap.size, 1, none⟩ = some (.slice B2 m2 k2) := (cell_of_row _ _ 1 _ _ _ (blk_alloc HF27.out _)).trans rfl
    go_wp2_with (at_builtin; refine wpList_appX rfl (.tmp 34) (.tmp 38) 30 91 _ 24 rfl Try.underlying30 info_wrB rfl (by omega) (by omega) wrC_len wrC_one w.heap.size w (HB31.out.alloc HB31.out.size (.cells #[.int .i64 i, .string s] 91 (0, 0))) (Nat.le_trans HB31.out.size (by simp)) (.slice B2 m2 k2) CC rfl (HQ30.out.alloc (.cells #[.int .i64 i, .string s] 91 (0, 0))) w5.heap.size 1 (i, s) #[.int .i64 i, .string s] 91 (0, 0) rfl (heap_alloc_new w5 _) rfl (by omega) ?_)
    intro v9 w90 HO9 HB9 _ HG9
    have HFp := Lib.hid ((HQ30.out.alloc (.cells #[.int .i64 i, .string s] 91 (0, 0))).box HG9.out (blk_alloc HF27.out (.cells #[.int .i64 i, .string s] 91 (0, 0))) (Or.inl (by decide)))
    have HFr := Lib.hid ((HQ30.out.alloc (.cells #[.int .i64 i, .string s] 91 (0, 0))).box HG9.out (blk_alloc HF28.out (.cells #[.int .i64 i, .string s] 91 (0, 0))) (Or.inl (by decide)))
    have HP9 := Lib.hid ((HO29.out.alloc (.cells #[.int .i64 i, .string s] 91 (0, 0))).other (HQ30.out.alloc (.cells #[.int .i64 i, .string s] 91 (0, 0))) (by decide) HG9.out)
    obtain ⟨Q1, Q2, Q3, rfl⟩ := HO9.out.sl3
    clear hc32
    clear y1
    have hc33 : w90.cell? ⟨w.heap.size, 1, none⟩ = some (.slice B2 m2 k2) := by rw [cell_of_row _ _ _ _ _ _ HFp.out]; rfl
    have hz34 : w90.frozen? ⟨w.heap.size, 1, none⟩ = false := frozen_of_row _ _ _ _ _ HFp.out
    go_upto_region 12 with (fail)
    clear hc33 hz34
    have HKK35 := Lib.hid ((KK.refl [w.heap.size] w90).set (b := w.heap.size) (by simp) 1 (.slice Q1 Q2 Q3))
    have HF36 := Lib.hid (show (w90.setCell ⟨w.heap.size, 1, none⟩ (.slice Q1 Q2 Q3)).heap[w.heap.size]? = some (.cells #[.slice B1 m1 k1, .slice Q1 Q2 Q3, .int .i64 (stpF ar), .bool (stpD ar), .int .i64 (stpO op ar)] 35 (0, 0)) by have q := heap_setCell_at (i := 1) (u := .slice Q1 Q2 Q3) (HFp.out); exact q)
    have HF37 := Lib.hid (HKK35.out.blk HFr.out (by simp <;> omega))
    have HP38 := Lib.hid (HP9.out.kkD HKK35.out HFp.out (by decide))
    have HO39 := Lib.hid (HO9.out.kkD HKK35.out HFp.out (by decide))
    have HB40 := Lib.hid (HKK35.out.below HB9.out (fun b hb => by obtain rfl : b = w.heap.size := (by simpa using hb); omega) HB9.out.size)
    clear HB9 HFp HFr
    generalize (w90.setCell ⟨w.heap.size, 1, none⟩ (.slice Q1 Q2 Q3)) = w6 at *
    go_wp2_with (first
      | refine wpList_store_rowY rfl 35 (.tmp 6) (.tmp 42) rfl (w.heap.size + 1) #[.slice B1 m1 k1, .slice Q1 Q2 Q3, .int .i64 (stpF ar), .bool (stpD ar), .int .i64 (stpO op ar)] rfl rfl 35 _ HF37.out (info_rd) rfl (by simp [Value.oneCell']) w.heap.size w HB40.out (by omega) ?_
      | refine wpList_load_row rfl 35 (.tmp 3) rfl (w.heap.size) rfl 35 #[.slice B1 m1 k1, .slice Q1 Q2 Q3, .int .i64 (stpF ar), .bool (stpD ar), .int .i64 (stpO op ar)] (0, 0) _ HF36.out Try.underlying35 rfl (info_rd) ?_)
    intro w7 hbk hoth hbel _
    have HP41 := Lib.hid (HP38.out.oth hoth.out HF37.out (by decide))
    have HO42 := Lib.hid (HO39.out.oth hoth.out HF37.out (by decide))
    have HF43 := Lib.hid (blk_oth HF36.out hoth.out (by omega))
    have HF44 := Lib.hid hbk.out
    have HB45 := Lib.hid hbel.out
    clear hbk hoth hbel HB40 HF36 HF37
    go_wp2_with fail
    rw [HE1.out, HE2.out]
    refine bodyPost_ret (results_ctY rfl _ _ (w.heap.size + 1) #[.slice B1 m1 k1, .slice Q1 Q2 Q3, .int .i64 (stpF ar), .bool (stpD ar), .int .i64 (stpO op ar)] rfl (run_loadVar_row _ (w.heap.size + 1) 35 35 _ (0, 0) _ HF44.out Try.underlying35 rfl (by kernel_rfl))) rfl ?_
    exact ⟨_, rfl, ⟨_, _, _, Q1, Q2, Q3, rfl, OwX.rdP stC_len HP.out HP41.out, OwX.rdP wrC_len HP.out HO42.out⟩, HB45.out⟩
set_option maxRecDepth 100000 in
set_option maxHeartbeats 4000000 in
theorem rflush_up (P : Nat → Prop) (SS : List ByteArray) (CC : List Wr) (ar : Int) (op : Int) (A : Option Addr) (n c : Nat) (A2 : Option Addr) (n2 c2 : Nat) (w : World) (h1 : RdP P stC 1 w A n SS) (h2 : RdP P wrC 2 w A2 n2 CC) (hok : ∀ x ∈ CC, 0 ≤ x.1 ∧ x.1 < (SS.length : Int) ∧ x.2.size = 128) (ha : 0 ≤ ar ∧ ar ≤ 9223372036854775807) (ho : -1000000000 ≤ op ∧ op ≤ 1000000000) (hn : n ≤ 100000) (hn2 : n2 ≤ 100000) (hP : ∀ b, w.heap.size ≤ b → P b) :
    Calls Try.prog 47 #[rdv A n c A2 n2 c2 ar false op] w (RetDI P ⟨flsS ar SS CC, stpC ar CC, stpF ar, stpD ar, stpO op ar⟩ (stpE ar) w) := by
  have H1 := Lib.hid h1
  have H2 := Lib.hid h2
  have HL := Lib.hid h1.1.1
  clear h1 h2
  have HP := Lib.hid hP
  have HOK := Lib.hid hok
  clear hP hok
  by_cases hq : ar = 1
  · have HD2 := Lib.hid (show decide (ar = 1) = true from decide_eq_true hq)
    have HE1 := Lib.hid (show stpC ar CC = CC by unfold stpC; rw [if_pos hq])
    have HE2 := Lib.hid (show stpE ar = 7 by unfold stpE; rw [if_pos hq])
    have HE3 := Lib.hid (show flsS ar SS CC = SS from if_pos hq)
    clear hq
    have HB1 := Lib.hid (Below.refl w.heap.size w)
    have HF2 := Lib.hid (blk_new w (.cells #[.slice A n c, .slice A2 n2 c2, .int .i64 ar, .bool false, .int .i64 op] 35 (0, 0)))
    have HB3 := Lib.hid (HB1.out.alloc HB1.out.size (.cells #[.slice A n c, .slice A2 n2 c2, .int .i64 ar, .bool false, .int .i64 op] 35 (0, 0)))
    clear HB1
    have HF4 := Lib.hid (blk_alloc HF2.out (.cells #[.slice none 0 0, .slice none 0 0, .int .i64 0, .bool false, .int .i64 0] 35 (0, 0)))
    clear HF2
    have HF5 : Hid (((w.alloc (.cells #[.slice A n c, .slice A2 n2 c2, .int .i64 ar, .bool false, .int .i64 op] 35 (0, 0))).alloc (.cells #[.slice none 0 0, .slice none 0 0, .int .i64 0, .bool false, .int .i64 0] 35 (0, 0))).heap[w.heap.size + 1]? = some (.cells #[.slice none 0 0, .slice none 0 0, .int .i64 0, .bool false, .int .i64 0] 35 (0, 0))) := Lib.hid (blk_newN (W := (w.alloc (.cells #[.slice A n c, .slice A2 n2 c2, .int .i64 ar, .bool false, .int .i64 op] 35 (0, 0)))) (o := (.cells #[.slice none 0 0, .slice none 0 0, .int .i64 0, .bool false, .int .i64 0] 35 (0, 0))) (by simp))
    have HB6 := Lib.hid (HB3.out.alloc (by have := HB3.out.size; simp at this ⊢ <;> omega) (.cells #[.slice none 0 0, .slice none 0 0, .int .i64 0, .bool false, .int .i64 0] 35 (0, 0)))
    clear HB3
    obtain ⟨v, hv⟩ : ∃ v, v = ((w.alloc (.cells #[.slice A n c, .slice A2 n2 c2, .int .i64 ar, .bool false, .int .i64 op] 35 (0, 0))).alloc (.cells #[.slice none 0 0, .slice none 0 0, .int .i64 0, .bool false, .int .i64 0] 35 (0, 0))) := ⟨_, rfl⟩
    have HVv := Lib.hid hv
    rw [← hv] at HF4 HF5 HB6
    clear hv
    go_enter Try.func47, Try.ntmps47
    go_upto_region 1 with (fail)
    rw [← HVv.out]
    have hc7 : v.cell? ⟨w.heap.size, 3, none⟩ = some (.bool false) := by rw [cell_of_row _ _ _ _ _ _ HF4.out]; rfl
    have HST := rstep_any ⟨SS, CC, ar, false, op⟩ A n c A2 n2 c2 v ha ho
    unfold StepP at HST
    rw [step_false] at HST
    dsimp only at HST
    rw [HD2.out] at HST
    have HST := Lib.hid HST
    go_wp2_with (refine wpList_load_row rfl 35 (.tmp 1) rfl (w.heap.size) rfl 35 #[.slice A n c, .slice A2 n2 c2, .int .i64 ar, .bool false, .int .i64 op] (0, 0) _ HF4.out Try.underlying35 rfl (info_rd) ?_)
    refine (HST.out).mono ?_
    rintro e w1 ⟨rfl, hb1⟩
    clear hc7
    have HF8 := Lib.hid (blk_below HF4.out hb1)
    have HF9 := Lib.hid (blk_below HF5.out hb1)
    have HB10 := Lib.hid (HB6.out.trans (hb1.mono HB6.out.size))
    clear hb1 HB6 HF4 HF5
    clear HST
    go_wp2_with (first
      | refine wpList_store_rowY rfl 35 (.tmp 1) (.tmp 11) rfl (w.heap.size) #[.slice A n c, .slice A2 n2 c2, .int .i64 (stpF ar), .bool (stpD ar), .int .i64 (stpO op ar)] rfl rfl 35 _ HF8.out (info_rd) rfl (by simp [Value.oneCell']) w.heap.size w HB10.out (by omega) ?_)
    intro w2 hbk hoth hbel _
    have HF11 := Lib.hid hbk.out
    have HF12 := Lib.hid (blk_oth HF9.out hoth.out (by omega))
    have HB13 := Lib.hid hbel.out
    clear hbk hoth hbel HB10 HF8 HF9
    go_upto_region 5 with (fail)
    go_wp2_with (first
      | refine wpList_store_rowY rfl 35 (.tmp 2) (.tmp 14) rfl (w.heap.size + 1) #[.slice A n c, .slice A2 n2 c2, .int .i64 (stpF ar), .bool (stpD ar), .int .i64 (stpO op ar)] rfl rfl 35 _ HF12.out (info_rd) rfl (by simp [Value.oneCell']) w.heap.size w HB13.out (by omega) ?_
      | refine wpList_load_row rfl 35 (.tmp 1) rfl (w.heap.size) rfl 35 #[.slice A n c, .slice A2 n2 c2, .int .i64 (stpF ar), .bool (stpD ar), .int .i64 (stpO op ar)] (0, 0) _ HF11.out Try.underlying35 rfl (info_rd) ?_)
    intro w3 hbk hoth hbel _
    have HF14 := Lib.hid (blk_oth HF11.out hoth.out (by omega))
    have HF15 := Lib.hid hbk.out
    have HB16 := Lib.hid hbel.out
    clear hbk hoth hbel HB13 HF11 HF12
    go_wp2_with fail
    rw [HE1.out, HE2.out, HE3.out]
    refine bodyPost_ret (results_ctY rfl _ _ (w.heap.size + 1) #[.slice A n c, .slice A2 n2 c2, .int .i64 (stpF ar), .bool (stpD ar), .int .i64 (stpO op ar)] rfl (run_loadVar_row _ (w.heap.size + 1) 35 35 _ (0, 0) _ HF15.out Try.underlying35 rfl (by kernel_rfl))) rfl ?_
    exact ⟨_, rfl, ⟨A, n, c, A2, n2, c2, rfl, H1.out.below HB16.out, H2.out.below HB16.out⟩, HB16.out⟩
  · have HD2 := Lib.hid (show decide (ar = 1) = false from decide_eq_false hq)
    have HE1 := Lib.hid (show stpC ar CC = [] by unfold stpC; rw [if_neg hq])
    have HE2 := Lib.hid (show stpE ar = 0 by unfold stpE; rw [if_neg hq])
    have HE3 := Lib.hid (show flsS ar SS CC = setP allK 0 CC SS from if_neg hq)
    clear hq
    have HB1 := Lib.hid (Below.refl w.heap.size w)
    have HF2 := Lib.hid (blk_new w (.cells #[.slice A n c, .slice A2 n2 c2, .int .i64 ar, .bool false, .int .i64 op] 35 (0, 0)))
    have HB3 := Lib.hid (HB1.out.alloc HB1.out.size (.cells #[.slice A n c, .slice A2 n2 c2, .int .i64 ar, .bool false, .int .i64 op] 35 (0, 0)))
    clear HB1
    have HF4 := Lib.hid (blk_alloc HF2.out (.cells #[.slice none 0 0, .slice none 0 0, .int .i64 0, .bool false, .int .i64 0] 35 (0, 0)))
    clear HF2
    have HF5 : Hid (((w.alloc (.cells #[.slice A n c, .slice A2 n2 c2, .int .i64 ar, .bool false, .int .i64 op] 35 (0, 0))).alloc (.cells #[.slice none 0 0, .slice none 0 0, .int .i64 0, .bool false, .int .i64 0] 35 (0, 0))).heap[w.heap.size + 1]? = some (.cells #[.slice none 0 0, .slice none 0 0, .int .i64 0, .bool false, .int .i64 0] 35 (0, 0))) := Lib.hid (blk_newN (W := (w.alloc (.cells #[.slice A n c, .slice A2 n2 c2, .int .i64 ar, .bool false, .int .i64 op] 35 (0, 0)))) (o := (.cells #[.slice none 0 0, .slice none 0 0, .int .i64 0, .bool false, .int .i64 0] 35 (0, 0))) (by simp))
    have HB6 := Lib.hid (HB3.out.alloc (by have := HB3.out.size; simp at this ⊢ <;> omega) (.cells #[.slice none 0 0, .slice none 0 0, .int .i64 0, .bool false, .int .i64 0] 35 (0, 0)))
    clear HB3
    obtain ⟨v, hv⟩ : ∃ v, v = ((w.alloc (.cells #[.slice A n c, .slice A2 n2 c2, .int .i64 ar, .bool false, .int .i64 op] 35 (0, 0))).alloc (.cells #[.slice none 0 0, .slice none 0 0, .int .i64 0, .bool false, .int .i64 0] 35 (0, 0))) := ⟨_, rfl⟩
    have HVv := Lib.hid hv
    rw [← hv] at HF4 HF5 HB6
    clear hv
    go_enter Try.func47, Try.ntmps47
    go_upto_region 1 with (fail)
    rw [← HVv.out]
    have hc7 : v.cell? ⟨w.heap.size, 3, none⟩ = some (.bool false) := by rw [cell_of_row _ _ _ _ _ _ HF4.out]; rfl
    have HST := rstep_any ⟨SS, CC, ar, false, op⟩ A n c A2 n2 c2 v ha ho
    unfold StepP at HST
    rw [step_false] at HST
    dsimp only at HST
    rw [HD2.out] at HST
    have HST := Lib.hid HST
    go_wp2_with (refine wpList_load_row rfl 35 (.tmp 1) rfl (w.heap.size) rfl 35 #[.slice A n c, .slice A2 n2 c2, .int .i64 ar, .bool false, .int .i64 op] (0, 0) _ HF4.out Try.underlying35 rfl (info_rd) ?_)
    refine (HST.out).mono ?_
    rintro e w1 ⟨rfl, hb1⟩
    clear hc7
    have HF8 := Lib.hid (blk_below HF4.out hb1)
    have HF9 := Lib.hid (blk_below HF5.out hb1)
    have HB10 := Lib.hid (HB6.out.trans (hb1.mono HB6.out.size))
    clear hb1 HB6 HF4 HF5
    clear HST
    go_wp2_with (first
      | refine wpList_store_rowY rfl 35 (.tmp 1) (.tmp 11) rfl (w.heap.size) #[.slice A n c, .slice A2 n2 c2, .int .i64 (stpF ar), .bool (stpD ar), .int .i64 (stpO op ar)] rfl rfl 35 _ HF8.out (info_rd) rfl (by simp [Value.oneCell']) w.heap.size w HB10.out (by omega) ?_)
    intro w2 hbk hoth hbel _
    have HF11 := Lib.hid hbk.out
    have HF12 := Lib.hid (blk_oth HF9.out hoth.out (by omega))
    have HB13 := Lib.hid hbel.out
    clear hbk hoth hbel HB10 HF8 HF9
    have hc14 : w2.cell? ⟨w.heap.size, 0, none⟩ = some (.slice A n c) := by rw [cell_of_row _ _ _ _ _ _ HF11.out]; rfl
    have hc15 : w2.cell? ⟨w.heap.size, 1, none⟩ = some (.slice A2 n2 c2) := by rw [cell_of_row _ _ _ _ _ _ HF11.out]; rfl
    have HDN := Lib.hid (rdone_all A n c A2 n2 c2 (.slice none 0 0) SS CC w2 (H1.out.1.below HB13.out) (H2.out.1.below HB13.out) HOK.out hn hn2)
    go_wp2_with fail
    refine (HDN.out).mono ?_
    rintro e w3 ⟨B1, m1, k1, rfl, ho1, hb3⟩
    clear hc14 hc15
    have HF16 := Lib.hid (blk_below HF11.out hb3)
    have HF17 := Lib.hid (blk_below HF12.out hb3)
    have HB18 := Lib.hid (HB13.out.trans (hb3.mono HB13.out.size))
    have HO0 := Lib.hid (ho1.mono (B' := w.heap.size) HB13.out.size)
    clear hb3 HB13 HF11 HF12
    clear HDN ho1
    have hc19 : w3.cell? ⟨w.heap.size, 0, none⟩ = some (.slice A n c) := by rw [cell_of_row _ _ _ _ _ _ HF16.out]; rfl
    have hc20 : w3.cell? ⟨w.heap.size, 1, none⟩ = some (.slice A2 n2 c2) := by rw [cell_of_row _ _ _ _ _ _ HF16.out]; rfl
    have hz21 : w3.frozen? ⟨w.heap.size, 0, none⟩ = false := frozen_of_row _ _ _ _ _ HF16.out
    have hz22 : w3.frozen? ⟨w.heap.size, 1, none⟩ = false := frozen_of_row _ _ _ _ _ HF16.out
    go_upto_region 7 with (fail)
    clear hc19 hc20 hz21 hz22
    have HKK23 := Lib.hid (((KK.refl [w.heap.size] w3).set (b := w.heap.size) (by simp) 0 (.slice B1 m1 k1)).set (b := w.heap.size) (by simp) 1 (.slice none 0 0))
    have HF24 := Lib.hid (show ((w3.setCell ⟨w.heap.size, 0, none⟩ (.slice B1 m1 k1)).setCell ⟨w.heap.size, 1, none⟩ (.slice none 0 0)).heap[w.heap.size]? = some (.cells #[.slice B1 m1 k1, .slice none 0 0, .int .i64 (stpF ar), .bool (stpD ar), .int .i64 (stpO op ar)] 35 (0, 0)) by have q := heap_setCell_at (i := 1) (u := .slice none 0 0) (heap_setCell_at (i := 0) (u := .slice B1 m1 k1) (HF16.out)); exact q)
    have HF25 := Lib.hid (HKK23.out.blk HF17.out (by simp <;> omega))
    have HO26 := Lib.hid (HO0.out.kkD HKK23.out HF16.out (by decide))
    have HB27 := Lib.hid (HKK23.out.below HB18.out (fun b hb => by obtain rfl : b = w.heap.size := (by simpa using hb); omega) HB18.out.size)
    clear HB18 HF16 HF17
    generalize ((w3.setCell ⟨w.heap.size, 0, none⟩ (.slice B1 m1 k1)).setCell ⟨w.heap.size, 1, none⟩ (.slice none 0 0)) = w4 at *
    go_wp2_with (first
      | refine wpList_store_rowY rfl 35 (.tmp 2) (.tmp 19) rfl (w.heap.size + 1) #[.slice B1 m1 k1, .slice none 0 0, .int .i64 (stpF ar), .bool (stpD ar), .int .i64 (stpO op ar)] rfl rfl 35 _ HF25.out (info_rd) rfl (by simp [Value.oneCell']) w.heap.size w HB27.out (by omega) ?_
      | refine wpList_load_row rfl 35 (.tmp 1) rfl (w.heap.size) rfl 35 #[.slice B1 m1 k1, .slice none 0 0, .int .i64 (stpF ar), .bool (stpD ar), .int .i64 (stpO op ar)] (0, 0) _ HF24.out Try.underlying35 rfl (info_rd) ?_)
    intro w5 hbk hoth hbel _
    have HO28 := Lib.hid (HO26.out.oth hoth.out HF25.out (by decide))
    have HF29 := Lib.hid (blk_oth HF24.out hoth.out (by omega))
    have HF30 := Lib.hid hbk.out
    have HB31 := Lib.hid hbel.out
    clear hbk hoth hbel HB27 HF24 HF25
    go_wp2_with fail
    rw [HE1.out, HE2.out, HE3.out]
    refine bodyPost_ret (results_ctY rfl _ _ (w.heap.size + 1) #[.slice B1 m1 k1, .slice none 0 0, .int .i64 (stpF ar), .bool (stpD ar), .int .i64 (stpO op ar)] rfl (run_loadVar_row _ (w.heap.size + 1) 35 35 _ (0, 0) _ HF30.out Try.underlying35 rfl (by kernel_rfl))) rfl ?_
    exact ⟨_, rfl, ⟨_, _, _, none, 0, 0, rfl, OwX.rdP stC_len HP.out HO28.out, ⟨RdX.nil, fun h => by omega⟩⟩, HB31.out⟩
set_option maxRecDepth 100000 in
set_option maxHeartbeats 4000000 in
theorem rcrash_any (P : Nat → Prop) (SS : List ByteArray) (CC : List Wr) (ar : Int) (go : Bool) (op : Int) (A : Option Addr) (n c : Nat) (A2 : Option Addr) (n2 c2 : Nat) (A3 : Option Addr) (n3' c3 : Nat) (ks : List Int) (w : World) (h1 : RdP P stC 1 w A n SS) (h2 : RdP P wrC 2 w A2 n2 CC) (hok : ∀ x ∈ CC, 0 ≤ x.1 ∧ x.1 < (SS.length : Int) ∧ x.2.size = 128) (hk : RdX inC 1 w A3 n3' ks) (hn3 : n3' ≤ maxLen) (hn : n ≤ 100000) (hn2 : n2 ≤ 100000) (hP : ∀ b, w.heap.size ≤ b → P b) :
    Calls Try.prog 49 #[rdv A n c A2 n2 c2 ar go op, .slice A3 n3' c3] w (RetD P ⟨setP (inK ks) 0 CC SS, [], 0, true, op⟩ w) := by
  have H1 := Lib.hid h1
  have H2 := Lib.hid h2
  have HL := Lib.hid h1.1.1
  clear h1 h2
  have HP := Lib.hid hP
  have HOK := Lib.hid hok
  have HKS := Lib.hid hk
  clear hk
  clear hP hok
  have HB1 := Lib.hid (Below.refl w.heap.size w)
  have HF2 := Lib.hid (blk_new w (.cells #[.slice A n c, .slice A2 n2 c2, .int .i64 ar, .bool go, .int .i64 op] 35 (0, 0)))
  have HB3 := Lib.hid (HB1.out.alloc HB1.out.size (.cells #[.slice A n c, .slice A2 n2 c2, .int .i64 ar, .bool go, .int .i64 op] 35 (0, 0)))
  clear HB1
  have HF4 := Lib.hid (blk_alloc HF2.out (.cells #[.slice none 0 0, .slice none 0 0, .int .i64 0, .bool false, .int .i64 0] 35 (0, 0)))
  clear HF2
  have HF5 : Hid (((w.alloc (.cells #[.slice A n c, .slice A2 n2 c2, .int .i64 ar, .bool go, .int .i64 op] 35 (0, 0))).alloc (.cells #[.slice none 0 0, .slice none 0 0, .int .i64 0, .bool false, .int .i64 0] 35 (0, 0))).heap[w.heap.size + 1]? = some (.cells #[.slice none 0 0, .slice none 0 0, .int .i64 0, .bool false, .int .i64 0] 35 (0, 0))) := Lib.hid (blk_newN (W := (w.alloc (.cells #[.slice A n c, .slice A2 n2 c2, .int .i64 ar, .bool go, .int .i64 op] 35 (0, 0)))) (o := (.cells #[.slice none 0 0, .slice none 0 0, .int .i64 0, .bool false, .int .i64 0] 35 (0, 0))) (by simp))
  have HB6 := Lib.hid (HB3.out.alloc (by have := HB3.out.size; simp at this ⊢ <;> omega) (.cells #[.slice none 0 0, .slice none 0 0, .int .i64 0, .bool false, .int .i64 0] 35 (0, 0)))
  clear HB3
  obtain ⟨v, hv⟩ : ∃ v, v = ((w.alloc (.cells #[.slice A n c, .slice A2 n2 c2, .int .i64 ar, .bool go, .int .i64 op] 35 (0, 0))).alloc (.cells #[.slice none 0 0, .slice none 0 0, .int .i64 0, .bool false, .int .i64 0] 35 (0, 0))) := ⟨_, rfl⟩
  have HVv := Lib.hid hv
  rw [← hv] at HF4 HF5 HB6
  clear hv
  go_enter Try.func49, Try.ntmps49
  go_upto_region 1 with (fail)
  rw [← HVv.out]
  have hc7 : v.cell? ⟨w.heap.size, 0, none⟩ = some (.slice A n c) := by rw [cell_of_row _ _ _ _ _ _ HF4.out]; rfl
  have hc8 : v.cell? ⟨w.heap.size, 1, none⟩ = some (.slice A2 n2 c2) := by rw [cell_of_row _ _ _ _ _ _ HF4.out]; rfl
  have HDN := Lib.hid (rdone_keep A n c A2 n2 c2 A3 n3' c3 ks SS CC v (H1.out.1.below HB6.out) (H2.out.1.below HB6.out) (HKS.out.below HB6.out) hn3 HOK.out hn hn2)
  go_wp2_with fail
  refine (HDN.out).mono ?_
  rintro e w1 ⟨B1, m1, k1, rfl, ho1, hb1⟩
  clear hc7 hc8
  have HF9 := Lib.hid (blk_below HF4.out hb1)
  have HF10 := Lib.hid (blk_below HF5.out hb1)
  have HB11 := Lib.hid (HB6.out.trans (hb1.mono HB6.out.size))
  have HO0 := Lib.hid (ho1.mono (B' := w.heap.size) HB6.out.size)
  clear hb1 HB6 HF4 HF5
  clear HDN ho1
  have hc12 : w1.cell? ⟨w.heap.size, 0, none⟩ = some (.slice A n c) := by rw [cell_of_row _ _ _ _ _ _ HF9.out]; rfl
  have hc13 : w1.cell? ⟨w.heap.size, 1, none⟩ = some (.slice A2 n2 c2) := by rw [cell_of_row _ _ _ _ _ _ HF9.out]; rfl
  have hz14 : w1.frozen? ⟨w.heap.size, 0, none⟩ = false := frozen_of_row _ _ _ _ _ HF9.out
  have hz15 : w1.frozen? ⟨w.heap.size, 1, none⟩ = false := frozen_of_row _ _ _ _ _ HF9.out
  have hc16 : w1.cell? ⟨w.heap.size, 2, none⟩ = some (.int .i64 ar) := by rw [cell_of_row _ _ _ _ _ _ HF9.out]; rfl
  have hc17 : w1.cell? ⟨w.heap.size, 3, none⟩ = some (.bool go) := by rw [cell_of_row _ _ _ _ _ _ HF9.out]; rfl
  have hz18 : w1.frozen? ⟨w.heap.size, 2, none⟩ = false := frozen_of_row _ _ _ _ _ HF9.out
  have hz19 : w1.frozen? ⟨w.heap.size, 3, none⟩ = false := frozen_of_row _ _ _ _ _ HF9.out
  go_upto_region 4 with (fail)
  clear hc12 hc13 hz14 hz15 hc16 hc17 hz18 hz19
  have HKK20 := Lib.hid (((((KK.refl [w.heap.size] w1).set (b := w.heap.size) (by simp) 0 (.slice B1 m1 k1)).set (b := w.heap.size) (by simp) 1 (.slice none 0 0)).set (b := w.heap.size) (by simp) 3 (.bool true)).set (b := w.heap.size) (by simp) 2 (.int .i64 0))
  have HF21 := Lib.hid (show ((((w1.setCell ⟨w.heap.size, 0, none⟩ (.slice B1 m1 k1)).setCell ⟨w.heap.size, 1, none⟩ (.slice none 0 0)).setCell ⟨w.heap.size, 3, none⟩ (.bool true)).setCell ⟨w.heap.size, 2, none⟩ (.int .i64 0)).heap[w.heap.size]? = some (.cells #[.slice B1 m1 k1, .slice none 0 0, .int .i64 0, .bool true, .int .i64 op] 35 (0, 0)) by have q := heap_setCell_at (i := 2) (u := .int .i64 0) (heap_setCell_at (i := 3) (u := .bool true) (heap_setCell_at (i := 1) (u := .slice none 0 0) (heap_setCell_at (i := 0) (u := .slice B1 m1 k1) (HF9.out)))); exact q)
  have HF22 := Lib.hid (HKK20.out.blk HF10.out (by simp <;> omega))
  have HO23 := Lib.hid (HO0.out.kkD HKK20.out HF9.out (by decide))
  have HB24 := Lib.hid (HKK20.out.below HB11.out (fun b hb => by obtain rfl : b = w.heap.size := (by simpa using hb); omega) HB11.out.size)
  clear HB11 HF9 HF10
  generalize ((((w1.setCell ⟨w.heap.size, 0, none⟩ (.slice B1 m1 k1)).setCell ⟨w.heap.size, 1, none⟩ (.slice none 0 0)).setCell ⟨w.heap.size, 3, none⟩ (.bool true)).setCell ⟨w.heap.size, 2, none⟩ (.int .i64 0)) = w2 at *
  go_wp2_with (first
    | refine wpList_store_rowY rfl 35 (.tmp 4) (.tmp 12) rfl (w.heap.size + 1) #[.slice B1 m1 k1, .slice none 0 0, .int .i64 0, .bool true, .int .i64 op] rfl rfl 35 _ HF22.out (info_rd) rfl (by simp [Value.oneCell']) w.heap.size w HB24.out (by omega) ?_
    | refine wpList_load_row rfl 35 (.tmp 2) rfl (w.heap.size) rfl 35 #[.slice B1 m1 k1, .slice none 0 0, .int .i64 0, .bool true, .int .i64 op] (0, 0) _ HF21.out Try.underlying35 rfl (info_rd) ?_)
  intro w3 hbk hoth hbel _
  have HO25 := Lib.hid (HO23.out.oth hoth.out HF22.out (by decide))
  have HF26 := Lib.hid (blk_oth HF21.out hoth.out (by omega))
  have HF27 := Lib.hid hbk.out
  have HB28 := Lib.hid hbel.out
  clear hbk hoth hbel HB24 HF21 HF22
  go_wp2_with fail
  refine bodyPost_ret (results_cY rfl _ _ (w.heap.size + 1) #[.slice B1 m1 k1, .slice none 0 0, .int .i64 0, .bool true, .int .i64 op] rfl (run_loadVar_row _ (w.heap.size + 1) 35 35 _ (0, 0) _ HF27.out Try.underlying35 rfl (by kernel_rfl))) rfl ?_
  exact ⟨_, rfl, ⟨_, _, _, none, 0, 0, rfl, OwX.rdP stC_len HP.out HO25.out, ⟨RdX.nil, fun h => by omega⟩⟩, HB28.out⟩
set_option maxRecDepth 100000 in
set_option maxHeartbeats 4000000 in
theorem rboot_any (P : Nat → Prop) (SS : List ByteArray) (CC : List Wr) (ar : Int) (go : Bool) (op : Int) (A : Option Addr) (n c : Nat) (A2 : Option Addr) (n2 c2 : Nat) (w : World) (h1 : RdP P stC 1 w A n SS) (h2 : RdP P wrC 2 w A2 n2 CC) (hok : ∀ x ∈ CC, 0 ≤ x.1 ∧ x.1 < (SS.length : Int) ∧ x.2.size = 128) (hn : n ≤ 100000) (hn2 : n2 ≤ 100000) (hP : ∀ b, w.heap.size ≤ b → P b) :
    Calls Try.prog 50 #[rdv A n c A2 n2 c2 ar go op] w (RetD P ⟨setP (inK []) 0 CC SS, [], 0, false, op⟩ w) := by
  have H1 := Lib.hid h1
  have H2 := Lib.hid h2
  have HL := Lib.hid h1.1.1
  clear h1 h2
  have HP := Lib.hid hP
  have HOK := Lib.hid hok
  clear hP hok
  have HB1 := Lib.hid (Below.refl w.heap.size w)
  have HF2 := Lib.hid (blk_new w (.cells #[.slice A n c, .slice A2 n2 c2, .int .i64 ar, .bool go, .int .i64 op] 35 (0, 0)))
  have HB3 := Lib.hid (HB1.out.alloc HB1.out.size (.cells #[.slice A n c, .slice A2 n2 c2, .int .i64 ar, .bool go, .int .i64 op] 35 (0, 0)))
  clear HB1
  have HF4 := Lib.hid (blk_alloc HF2.out (.cells #[.slice none 0 0, .slice none 0 0, .int .i64 0, .bool false, .int .i64 0] 35 (0, 0)))
  clear HF2
  have HF5 : Hid (((w.alloc (.cells #[.slice A n c, .slice A2 n2 c2, .int .i64 ar, .bool go, .int .i64 op] 35 (0, 0))).alloc (.cells #[.slice none 0 0, .slice none 0 0, .int .i64 0, .bool false, .int .i64 0] 35 (0, 0))).heap[w.heap.size + 1]? = some (.cells #[.slice none 0 0, .slice none 0 0, .int .i64 0, .bool false, .int .i64 0] 35 (0, 0))) := Lib.hid (blk_newN (W := (w.alloc (.cells #[.slice A n c, .slice A2 n2 c2, .int .i64 ar, .bool go, .int .i64 op] 35 (0, 0)))) (o := (.cells #[.slice none 0 0, .slice none 0 0, .int .i64 0, .bool false, .int .i64 0] 35 (0, 0))) (by simp))
  have HB6 := Lib.hid (HB3.out.alloc (by have := HB3.out.size; simp at this ⊢ <;> omega) (.cells #[.slice none 0 0, .slice none 0 0, .int .i64 0, .bool false, .int .i64 0] 35 (0, 0)))
  clear HB3
  obtain ⟨v, hv⟩ : ∃ v, v = ((w.alloc (.cells #[.slice A n c, .slice A2 n2 c2, .int .i64 ar, .bool go, .int .i64 op] 35 (0, 0))).alloc (.cells #[.slice none 0 0, .slice none 0 0, .int .i64 0, .bool false, .int .i64 0] 35 (0, 0))) := ⟨_, rfl⟩
  have HVv := Lib.hid hv
  rw [← hv] at HF4 HF5 HB6
  clear hv
  go_enter Try.func50, Try.ntmps50
  go_upto_region 1 with (fail)
  rw [← HVv.out]
  have hc7 : v.cell? ⟨w.heap.size, 0, none⟩ = some (.slice A n c) := by rw [cell_of_row _ _ _ _ _ _ HF4.out]; rfl
  have hc8 : v.cell? ⟨w.heap.size, 1, none⟩ = some (.slice A2 n2 c2) := by rw [cell_of_row _ _ _ _ _ _ HF4.out]; rfl
  have HDN := Lib.hid (rdone_keep A n c A2 n2 c2 none 0 0 [] SS CC v (H1.out.1.below HB6.out) (H2.out.1.below HB6.out) RdX.nil (Nat.zero_le _) HOK.out hn hn2)
  go_wp2_with fail
  refine (HDN.out).mono ?_
  rintro e w1 ⟨B1, m1, k1, rfl, ho1, hb1⟩
  clear hc7 hc8
  have HF9 := Lib.hid (blk_below HF4.out hb1)
  have HF10 := Lib.hid (blk_below HF5.out hb1)
  have HB11 := Lib.hid (HB6.out.trans (hb1.mono HB6.out.size))
  have HO0 := Lib.hid (ho1.mono (B' := w.heap.size) HB6.out.size)
  clear hb1 HB6 HF4 HF5
  clear HDN ho1
  have hc12 : w1.cell? ⟨w.heap.size, 0, none⟩ = some (.slice A n c) := by rw [cell_of_row _ _ _ _ _ _ HF9.out]; rfl
  have hc13 : w1.cell? ⟨w.heap.size, 1, none⟩ = some (.slice A2 n2 c2) := by rw [cell_of_row _ _ _ _ _ _ HF9.out]; rfl
  have hz14 : w1.frozen? ⟨w.heap.size, 0, none⟩ = false := frozen_of_row _ _ _ _ _ HF9.out
  have hz15 : w1.frozen? ⟨w.heap.size, 1, none⟩ = false := frozen_of_row _ _ _ _ _ HF9.out
  have hc16 : w1.cell? ⟨w.heap.size, 2, none⟩ = some (.int .i64 ar) := by rw [cell_of_row _ _ _ _ _ _ HF9.out]; rfl
  have hc17 : w1.cell? ⟨w.heap.size, 3, none⟩ = some (.bool go) := by rw [cell_of_row _ _ _ _ _ _ HF9.out]; rfl
  have hz18 : w1.frozen? ⟨w.heap.size, 2, none⟩ = false := frozen_of_row _ _ _ _ _ HF9.out
  have hz19 : w1.frozen? ⟨w.heap.size, 3, none⟩ = false := frozen_of_row _ _ _ _ _ HF9.out
  go_upto_region 4 with (fail)
  clear hc12 hc13 hz14 hz15 hc16 hc17 hz18 hz19
  have HKK20 := Lib.hid (((((KK.refl [w.heap.size] w1).set (b := w.heap.size) (by simp) 0 (.slice B1 m1 k1)).set (b := w.heap.size) (by simp) 1 (.slice none 0 0)).set (b := w.heap.size) (by simp) 3 (.bool false)).set (b := w.heap.size) (by simp) 2 (.int .i64 0))
  have HF21 := Lib.hid (show ((((w1.setCell ⟨w.heap.size, 0, none⟩ (.slice B1 m1 k1)).setCell ⟨w.heap.size, 1, none⟩ (.slice none 0 0)).setCell ⟨w.heap.size, 3, none⟩ (.bool false)).setCell ⟨w.heap.size, 2, none⟩ (.int .i64 0)).heap[w.heap.size]? = some (.cells #[.slice B1 m1 k1, .slice none 0 0, .int .i64 0, .bool false, .int .i64 op] 35 (0, 0)) by have q := heap_setCell_at (i := 2) (u := .int .i64 0) (heap_setCell_at (i := 3) (u := .bool false) (heap_setCell_at (i := 1) (u := .slice none 0 0) (heap_setCell_at (i := 0) (u := .slice B1 m1 k1) (HF9.out)))); exact q)
  have HF22 := Lib.hid (HKK20.out.blk HF10.out (by simp <;> omega))
  have HO23 := Lib.hid (HO0.out.kkD HKK20.out HF9.out (by decide))
  have HB24 := Lib.hid (HKK20.out.below HB11.out (fun b hb => by obtain rfl : b = w.heap.size := (by simpa using hb); omega) HB11.out.size)
  clear HB11 HF9 HF10
  generalize ((((w1.setCell ⟨w.heap.size, 0, none⟩ (.slice B1 m1 k1)).setCell ⟨w.heap.size, 1, none⟩ (.slice none 0 0)).setCell ⟨w.heap.size, 3, none⟩ (.bool false)).setCell ⟨w.heap.size, 2, none⟩ (.int .i64 0)) = w2 at *
  go_wp2_with (first
    | refine wpList_store_rowY rfl 35 (.tmp 2) (.tmp 9) rfl (w.heap.size + 1) #[.slice B1 m1 k1, .slice none 0 0, .int .i64 0, .bool false, .int .i64 op] rfl rfl 35 _ HF22.out (info_rd) rfl (by simp [Value.oneCell']) w.heap.size w HB24.out (by omega) ?_
    | refine wpList_load_row rfl 35 (.tmp 1) rfl (w.heap.size) rfl 35 #[.slice B1 m1 k1, .slice none 0 0, .int .i64 0, .bool false, .int .i64 op] (0, 0) _ HF21.out Try.underlying35 rfl (info_rd) ?_)
  intro w3 hbk hoth hbel _
  have HO25 := Lib.hid (HO23.out.oth hoth.out HF22.out (by decide))
  have HF26 := Lib.hid (blk_oth HF21.out hoth.out (by omega))
  have HF27 := Lib.hid hbk.out
  have HB28 := Lib.hid hbel.out
  clear hbk hoth hbel HB24 HF21 HF22
  go_wp2_with fail
  refine bodyPost_ret (results_cY rfl _ _ (w.heap.size + 1) #[.slice B1 m1 k1, .slice none 0 0, .int .i64 0, .bool false, .int .i64 op] rfl (run_loadVar_row _ (w.heap.size + 1) 35 35 _ (0, 0) _ HF27.out Try.underlying35 rfl (by kernel_rfl))) rfl ?_
  exact ⟨_, rfl, ⟨_, _, _, none, 0, 0, rfl, OwX.rdP stC_len HP.out HO25.out, ⟨RdX.nil, fun h => by omega⟩⟩, HB28.out⟩
end Go.Proofs.Ytiagbadnmkeokaa

namespace Go.Proofs.Ytiagbadnmkeokaa
open Go.RowKit Vi

theorem results_cttY {fn : Func} {p t u : Tmp} {ty : TypeId} (h : fn.results = #[.cell p ty, .tmp t, .tmp u]) (tmps : Array Value) (w : World) (g : Nat) (cs : Array Value)
    (hp : tmps.getD p undef = .pointer (some ⟨g, 0, none⟩)) (hr : (loadVar ty ⟨g, 0, none⟩).run Try.prog w = .ok (.agg cs) w) :
    (results fn tmps).run Try.prog w = .ok (.tuple #[.agg cs, tmps.getD t undef, tmps.getD u undef]) w := by
  have hp' : tmps[p]?.getD undef = .pointer (some ⟨g, 0, none⟩) := by simpa using hp
  simp [results, h, hp', asAddr, hr]
/-- a disk, a text, and a number are handed back -/
def RetDSI (P : Nat → Prop) (d : Ds) (s : ByteArray) (z : Int) (w : World) (e : Ending) (w' : World) : Prop := ∃ v, e = .returned (.tuple #[v, .string s, .int .i64 z]) ∧ RdR P d w' v ∧ Below w.heap.size w w'
set_option maxRecDepth 100000 in
set_option maxHeartbeats 4000000 in
theorem rread_gone (P : Nat → Prop) (SS : List ByteArray) (CC : List Wr) (ar : Int) (op : Int) (A : Option Addr) (n c : Nat) (A2 : Option Addr) (n2 c2 : Nat) (i : Int) (w : World) (h1 : RdP P stC 1 w A n SS) (h2 : RdP P wrC 2 w A2 n2 CC) :
    Calls Try.prog 46 #[rdv A n c A2 n2 c2 ar true op, .int .i64 i] w (RetDSI P ⟨SS, CC, ar, true, op⟩ ⟨#[]⟩ 7 w) := by
  have H1 := Lib.hid h1
  have H2 := Lib.hid h2
  have HL := Lib.hid h1.1.1
  clear h1 h2
  have HB1 := Lib.hid (Below.refl w.heap.size w)
  have HF2 := Lib.hid (blk_new w (.cells #[.slice A n c, .slice A2 n2 c2, .int .i64 ar, .bool true, .int .i64 op] 35 (0, 0)))
  have HB3 := Lib.hid (HB1.out.alloc HB1.out.size (.cells #[.slice A n c, .slice A2 n2 c2, .int .i64 ar, .bool true, .int .i64 op] 35 (0, 0)))
  clear HB1
  have HF4 := Lib.hid (blk_alloc HF2.out (.cells #[.slice none 0 0, .slice none 0 0, .int .i64 0, .bool false, .int .i64 0] 35 (0, 0)))
  clear HF2
  have HF5 : Hid (((w.alloc (.cells #[.slice A n c, .slice A2 n2 c2, .int .i64 ar, .bool true, .int .i64 op] 35 (0, 0))).alloc (.cells #[.slice none 0 0, .slice none 0 0, .int .i64 0, .bool false, .int .i64 0] 35 (0, 0))).heap[w.heap.size + 1]? = some (.cells #[.slice none 0 0, .slice none 0 0, .int .i64 0, .bool false, .int .i64 0] 35 (0, 0))) := Lib.hid (blk_newN (W := (w.alloc (.cells #[.slice A n c, .slice A2 n2 c2, .int .i64 ar, .bool true, .int .i64 op] 35 (0, 0)))) (o := (.cells #[.slice none 0 0, .slice none 0 0, .int .i64 0, .bool false, .int .i64 0] 35 (0, 0))) (by simp))
  have HB6 := Lib.hid (HB3.out.alloc (by have := HB3.out.size; simp at this ⊢ <;> omega) (.cells #[.slice none 0 0, .slice none 0 0, .int .i64 0, .bool false, .int .i64 0] 35 (0, 0)))
  clear HB3
  obtain ⟨v, hv⟩ : ∃ v, v = ((w.alloc (.cells #[.slice A n c, .slice A2 n2 c2, .int .i64 ar, .bool true, .int .i64 op] 35 (0, 0))).alloc (.cells #[.slice none 0 0, .slice none 0 0, .int .i64 0, .bool false, .int .i64 0] 35 (0, 0))) := ⟨_, rfl⟩
  have HVv := Lib.hid hv
  rw [← hv] at HF4 HF5 HB6
  clear hv
  go_enter Try.func46, Try.ntmps46
  go_upto_region 1 with (fail)
  rw [← HVv.out]
  have hc7 : v.cell? ⟨w.heap.size, 3, none⟩ = some (.bool true) := by rw [cell_of_row _ _ _ _ _ _ HF4.out]; rfl
  go_upto_region 2 with (fail)
  clear hc7
  go_wp2_with (first
    | refine wpList_store_rowY rfl 35 (.tmp 4) (.tmp 9) rfl (w.heap.size + 1) #[.slice A n c, .slice A2 n2 c2, .int .i64 ar, .bool true, .int .i64 op] rfl rfl 35 _ HF5.out (info_rd) rfl (by simp [Value.oneCell']) w.heap.size w HB6.out (by omega) ?_
    | refine wpList_load_row rfl 35 (.tmp 2) rfl (w.heap.size) rfl 35 #[.slice A n c, .slice A2 n2 c2, .int .i64 ar, .bool true, .int .i64 op] (0, 0) _ HF4.out Try.underlying35 rfl (info_rd) ?_)
  intro w1 hbk hoth hbel _
  have HF8 := Lib.hid (blk_oth HF4.out hoth.out (by omega))
  have HF9 := Lib.hid hbk.out
  have HB10 := Lib.hid hbel.out
  clear hbk hoth hbel HB6 HF4 HF5
  go_wp2_with fail
  refine bodyPost_ret (results_cttY rfl _ _ (w.heap.size + 1) #[.slice A n c, .slice A2 n2 c2, .int .i64 ar, .bool true, .int .i64 op] rfl (run_loadVar_row _ (w.heap.size + 1) 35 35 _ (0, 0) _ HF9.out Try.underlying35 rfl (by kernel_rfl))) rfl ?_
  exact ⟨_, rfl, ⟨A, n, c, A2, n2, c2, rfl, H1.out.below HB10.out, H2.out.below HB10.out⟩, HB10.out⟩
set_option maxRecDepth 100000 in
set_option maxHeartbeats 4000000 in
theorem rread_out (P : Nat → Prop) (SS : List ByteArray) (CC : List Wr) (ar : Int) (op : Int) (A : Option Addr) (n c : Nat) (A2 : Option Addr) (n2 c2 : Nat) (i : Int) (w : World) (h1 : RdP P stC 1 w A n SS) (h2 : RdP P wrC 2 w A2 n2 CC) (hi : ¬ (0 ≤ i ∧ i < (SS.length : Int))) :
    Calls Try.prog 46 #[rdv A n c A2 n2 c2 ar false op, .int .i64 i] w (RetDSI P ⟨SS, CC, ar, false, op⟩ ⟨#[]⟩ 8 w) := by
  have H1 := Lib.hid h1
  have H2 := Lib.hid h2
  have HL := Lib.hid h1.1.1
  clear h1 h2
  have HD := Lib.hid (show decide (0 ≤ i ∧ i < (n : Int)) = false from decide_eq_false (by rw [← HL.out]; exact hi))
  clear hi
  have HB1 := Lib.hid (Below.refl w.heap.size w)
  have HF2 := Lib.hid (blk_new w (.cells #[.slice A n c, .slice A2 n2 c2, .int .i64 ar, .bool false, .int .i64 op] 35 (0, 0)))
  have HB3 := Lib.hid (HB1.out.alloc HB1.out.size (.cells #[.slice A n c, .slice A2 n2 c2, .int .i64 ar, .bool false, .int .i64 op] 35 (0, 0)))
  clear HB1
  have HF4 := Lib.hid (blk_alloc HF2.out (.cells #[.slice none 0 0, .slice none 0 0, .int .i64 0, .bool false, .int .i64 0] 35 (0, 0)))
  clear HF2
  have HF5 : Hid (((w.alloc (.cells #[.slice A n c, .slice A2 n2 c2, .int .i64 ar, .bool false, .int .i64 op] 35 (0, 0))).alloc (.cells #[.slice none 0 0, .slice none 0 0, .int .i64 0, .bool false, .int .i64 0] 35 (0, 0))).heap[w.heap.size + 1]? = some (.cells #[.slice none 0 0, .slice none 0 0, .int .i64 0, .bool false, .int .i64 0] 35 (0, 0))) := Lib.hid (blk_newN (W := (w.alloc (.cells #[.slice A n c, .slice A2 n2 c2, .int .i64 ar, .bool false, .int .i64 op] 35 (0, 0)))) (o := (.cells #[.slice none 0 0, .slice none 0 0, .int .i64 0, .bool false, .int .i64 0] 35 (0, 0))) (by simp))
  have HB6 := Lib.hid (HB3.out.alloc (by have := HB3.out.size; simp at this ⊢ <;> omega) (.cells #[.slice none 0 0, .slice none 0 0, .int .i64 0, .bool false, .int .i64 0] 35 (0, 0)))
  clear HB3
  obtain ⟨v, hv⟩ : ∃ v, v = ((w.alloc (.cells #[.slice A n c, .slice A2 n2 c2, .int .i64 ar, .bool false, .int .i64 op] 35 (0, 0))).alloc (.cells #[.slice none 0 0, .slice none 0 0, .int .i64 0, .bool false, .int .i64 0] 35 (0, 0))) := ⟨_, rfl⟩
  have HVv := Lib.hid hv
  rw [← hv] at HF4 HF5 HB6
  clear hv
  go_enter Try.func46, Try.ntmps46
  go_upto_region 1 with (fail)
  rw [← HVv.out]
  have hc7 : v.cell? ⟨w.heap.size, 3, none⟩ = some (.bool false) := by rw [cell_of_row _ _ _ _ _ _ HF4.out]; rfl
  have HIN := Lib.hid (rin_any A n c A2 n2 c2 ar false op i v)
  rw [HD.out] at HIN
  go_wp2_with (refine wpList_load_row rfl 35 (.tmp 2) rfl (w.heap.size) rfl 35 #[.slice A n c, .slice A2 n2 c2, .int .i64 ar, .bool false, .int .i64 op] (0, 0) _ HF4.out Try.underlying35 rfl (info_rd) ?_)
  refine (HIN.out).mono ?_
  rintro e w1 ⟨rfl, hb1⟩
  clear hc7
  have HF8 := Lib.hid (blk_below HF4.out hb1)
  have HF9 := Lib.hid (blk_below HF5.out hb1)
  have HB10 := Lib.hid (HB6.out.trans (hb1.mono HB6.out.size))
  clear hb1 HB6 HF4 HF5
  clear HIN
  go_upto_region 4 with (fail)
  go_wp2_with (first
    | refine wpList_store_rowY rfl 35 (.tmp 4) (.tmp 14) rfl (w.heap.size + 1) #[.slice A n c, .slice A2 n2 c2, .int .i64 ar, .bool false, .int .i64 op] rfl rfl 35 _ HF9.out (info_rd) rfl (by simp [Value.oneCell']) w.heap.size w HB10.out (by omega) ?_
    | refine wpList_load_row rfl 35 (.tmp 2) rfl (w.heap.size) rfl 35 #[.slice A n c, .slice A2 n2 c2, .int .i64 ar, .bool false, .int .i64 op] (0, 0) _ HF8.out Try.underlying35 rfl (info_rd) ?_)
  intro w2 hbk hoth hbel _
  have HF11 := Lib.hid (blk_oth HF8.out hoth.out (by omega))
  have HF12 := Lib.hid hbk.out
  have HB13 := Lib.hid hbel.out
  clear hbk hoth hbel HB10 HF8 HF9
  go_wp2_with fail
  refine bodyPost_ret (results_cttY rfl _ _ (w.heap.size + 1) #[.slice A n c, .slice A2 n2 c2, .int .i64 ar, .bool false, .int .i64 op] rfl (run_loadVar_row _ (w.heap.size + 1) 35 35 _ (0, 0) _ HF12.out Try.underlying35 rfl (by kernel_rfl))) rfl ?_
  exact ⟨_, rfl, ⟨A, n, c, A2, n2, c2, rfl, H1.out.below HB13.out, H2.out.below HB13.out⟩, HB13.out⟩
set_option maxRecDepth 100000 in
set_option maxHeartbeats 4000000 in
theorem rread_up (P : Nat → Prop) (SS : List ByteArray) (CC : List Wr) (ar : Int) (op : Int) (A : Option Addr) (n c : Nat) (A2 : Option Addr) (n2 c2 : Nat) (i : Int) (w : World) (h1 : RdP P stC 1 w A n SS) (h2 : RdP P wrC 2 w A2 n2 CC) (hi : 0 ≤ i ∧ i < (SS.length : Int)) (hn2 : n2 ≤ 100000) (ho : -1000000000 ≤ op ∧ op ≤ 1000000000) :
    Calls Try.prog 46 #[rdv A n c A2 n2 c2 ar false op, .int .i64 i] w (RetDSI P ⟨SS, CC, ar, false, op + 1⟩ (shw SS CC i) 0 w) := by
  have H1 := Lib.hid h1
  have H2 := Lib.hid h2
  have HL := Lib.hid h1.1.1
  clear h1 h2
  have HD := Lib.hid (show decide (0 ≤ i ∧ i < (n : Int)) = true from decide_eq_true (by rw [← HL.out]; exact hi))
  have HI := Lib.hid (show 0 ≤ i ∧ i < (n : Int) by rw [← HL.out]; exact hi)
  have hwp : IntKind.i64.wrap (op + 1) = op + 1 := IntWalk.i64_in _ (by omega)
  clear hi
  have HB1 := Lib.hid (Below.refl w.heap.size w)
  have HF2 := Lib.hid (blk_new w (.cells #[.slice A n c, .slice A2 n2 c2, .int .i64 ar, .bool false, .int .i64 op] 35 (0, 0)))
  have HB3 := Lib.hid (HB1.out.alloc HB1.out.size (.cells #[.slice A n c, .slice A2 n2 c2, .int .i64 ar, .bool false, .int .i64 op] 35 (0, 0)))
  clear HB1
  have HF4 := Lib.hid (blk_alloc HF2.out (.cells #[.slice none 0 0, .slice none 0 0, .int .i64 0, .bool false, .int .i64 0] 35 (0, 0)))
  clear HF2
  have HF5 : Hid (((w.alloc (.cells #[.slice A n c, .slice A2 n2 c2, .int .i64 ar, .bool false, .int .i64 op] 35 (0, 0))).alloc (.cells #[.slice none 0 0, .slice none 0 0, .int .i64 0, .bool false, .int .i64 0] 35 (0, 0))).heap[w.heap.size + 1]? = some (.cells #[.slice none 0 0, .slice none 0 0, .int .i64 0, .bool false, .int .i64 0] 35 (0, 0))) := Lib.hid (blk_newN (W := (w.alloc (.cells #[.slice A n c, .slice A2 n2 c2, .int .i64 ar, .bool false, .int .i64 op] 35 (0, 0)))) (o := (.cells #[.slice none 0 0, .slice none 0 0, .int .i64 0, .bool false, .int .i64 0] 35 (0, 0))) (by simp))
  have HB6 := Lib.hid (HB3.out.alloc (by have := HB3.out.size; simp at this ⊢ <;> omega) (.cells #[.slice none 0 0, .slice none 0 0, .int .i64 0, .bool false, .int .i64 0] 35 (0, 0)))
  clear HB3
  obtain ⟨v, hv⟩ : ∃ v, v = ((w.alloc (.cells #[.slice A n c, .slice A2 n2 c2, .int .i64 ar, .bool false, .int .i64 op] 35 (0, 0))).alloc (.cells #[.slice none 0 0, .slice none 0 0, .int .i64 0, .bool false, .int .i64 0] 35 (0, 0))) := ⟨_, rfl⟩
  have HVv := Lib.hid hv
  rw [← hv] at HF4 HF5 HB6
  clear hv
  go_enter Try.func46, Try.ntmps46
  go_upto_region 1 with (fail)
  rw [← HVv.out]
  have hc7 : v.cell? ⟨w.heap.size, 3, none⟩ = some (.bool false) := by rw [cell_of_row _ _ _ _ _ _ HF4.out]; rfl
  have HIN := Lib.hid (rin_any A n c A2 n2 c2 ar false op i v)
  rw [HD.out] at HIN
  go_wp2_with (refine wpList_load_row rfl 35 (.tmp 2) rfl (w.heap.size) rfl 35 #[.slice A n c, .slice A2 n2 c2, .int .i64 ar, .bool false, .int .i64 op] (0, 0) _ HF4.out Try.underlying35 rfl (info_rd) ?_)
  refine (HIN.out).mono ?_
  rintro e w1 ⟨rfl, hb1⟩
  clear hc7
  have HF8 := Lib.hid (blk_below HF4.out hb1)
  have HF9 := Lib.hid (blk_below HF5.out hb1)
  have HB10 := Lib.hid (HB6.out.trans (hb1.mono HB6.out.size))
  clear hb1 HB6 HF4 HF5
  clear HIN
  have hc11 : w1.cell? ⟨w.heap.size, 4, none⟩ = some (.int .i64 op) := by rw [cell_of_row _ _ _ _ _ _ HF8.out]; rfl
  have hz12 : w1.frozen? ⟨w.heap.size, 4, none⟩ = false := frozen_of_row _ _ _ _ _ HF8.out
  go_upto_region 6 with (fail)
  clear hc11 hz12
  have HKK13 := Lib.hid ((KK.refl [w.heap.size] w1).set (b := w.heap.size) (by simp) 4 (.int .i64 (op + 1)))
  have HF14 := Lib.hid (show (w1.setCell ⟨w.heap.size, 4, none⟩ (.int .i64 (op + 1))).heap[w.heap.size]? = some (.cells #[.slice A n c, .slice A2 n2 c2, .int .i64 ar, .bool false, .int .i64 (op + 1)] 35 (0, 0)) by have q := heap_setCell_at (i := 4) (u := .int .i64 (op + 1)) (HF8.out); exact q)
  have HF15 := Lib.hid (HKK13.out.blk HF9.out (by simp <;> omega))
  have HB16 := Lib.hid (HKK13.out.below HB10.out (fun b hb => by obtain rfl : b = w.heap.size := (by simpa using hb); omega) HB10.out.size)
  clear HB10 HF8 HF9
  generalize (w1.setCell ⟨w.heap.size, 4, none⟩ (.int .i64 (op + 1))) = w2 at *
  clear hwp
  have HSH := Lib.hid (fun (W : World) (q1 : RdX stC 1 W A n SS) (q2 : RdX wrC 2 W A2 n2 CC) => rshows_any A n c A2 n2 c2 SS CC i W q1 q2 HI.out hn2)
  refine wp_region_L_drew (S := fun _ W => W.heap[w.heap.size]? = some (.cells #[.slice A n c, .slice A2 n2 c2, .int .i64 ar, .bool false, .int .i64 (op + 1)] 35 (0, 0))) (by kernel_rfl) HF14.out (fun hS hC => ?_)
  refine wpAnyL_take (i := 0) (oi := { dst := some 19, op := .load 35 (.tmp 2), type := _, pos := _, after := _, guard := none }) (v := ?_) rfl (by kernel_rfl) (by kernel_rfl) (by kernel_rfl) (fun _ _ _ h => h) (fun _ _ => Iff.rfl) hC (Or.inl ⟨by rfl, ?_⟩) hS (fun hC hS => ?_)
  rotate_left
  · intro W9 hSw; have q0 := (cell_of_row _ _ 0 _ _ _ hSw.choose_spec.2.2).trans rfl; have q1 := (cell_of_row _ _ 1 _ _ _ hSw.choose_spec.2.2).trans rfl; have q2 := (cell_of_row _ _ 2 _ _ _ hSw.choose_spec.2.2).trans rfl; have q3 := (cell_of_row _ _ 3 _ _ _ hSw.choose_spec.2.2).trans rfl; have q4 := (cell_of_row _ _ 4 _ _ _ hSw.choose_spec.2.2).trans rfl; go_simp; try (with_reducible rfl)
  try simp only [Act.put, List.setIfInBounds_toArray, List.set_cons_zero, List.set_cons_succ]
  refine wpAnyL_take (i := 1) (oi := { dst := some 20, op := .fieldAddr 35 (.tmp 2) 0, type := _, pos := _, after := _, guard := none }) (v := ?_) rfl (by kernel_rfl) (by kernel_rfl) (by kernel_rfl) (fun _ _ _ h => h) (fun _ _ => Iff.rfl) hC (Or.inl ⟨by rfl, ?_⟩) hS (fun hC hS => ?_)
  rotate_left
  · intro W9 hSw; skip; go_simp; try (with_reducible rfl)
  try simp only [Act.put, List.setIfInBounds_toArray, List.set_cons_zero, List.set_cons_succ]
  refine wpAnyL_take (i := 2) (oi := { dst := some 21, op := .load 32 (.tmp 20), type := _, pos := _, after := _, guard := none }) (v := ?_) rfl (by kernel_rfl) (by kernel_rfl) (by kernel_rfl) (fun _ _ _ h => h) (fun _ _ => Iff.rfl) hC (Or.inl ⟨by rfl, ?_⟩) hS (fun hC hS => ?_)
  rotate_left
  · intro W9 hSw; have q0 := (cell_of_row _ _ 0 _ _ _ hSw.choose_spec.2.2).trans rfl; have q1 := (cell_of_row _ _ 1 _ _ _ hSw.choose_spec.2.2).trans rfl; go_simp; try (with_reducible rfl)
  try simp only [Act.put, List.setIfInBounds_toArray, List.set_cons_zero, List.set_cons_succ]
  refine wpAnyL_take (i := 3) (oi := { dst := some 22, op := .move (.tmp 1), type := _, pos := _, after := _, guard := none }) (v := ?_) rfl (by kernel_rfl) (by kernel_rfl) (by kernel_rfl) (fun _ _ _ h => h) (fun _ _ => Iff.rfl) hC (Or.inl ⟨by rfl, ?_⟩) hS (fun hC hS => ?_)
  rotate_left
  · intro W9 hSw; skip; go_simp; try (with_reducible rfl)
  try simp only [Act.put, List.setIfInBounds_toArray, List.set_cons_zero, List.set_cons_succ]
  refine wpAnyL_ready (rs := [4]) (by kernel_rfl) (by simp) hC ?_
  refine AllReadyL.cons (o := { dst := some 23, op := .call { callee := .value (.func 85), args := #[.tmp 21, .tmp 22], argTypes := #[32, 3] }, type := _, pos := _, after := _, guard := none }) rfl (fun K9 hK => ?_) ?_
  · skip
    go_simp
    refine (HSH.out _ (H1.out.1.below HB16.out.drew) (H2.out.1.below HB16.out.drew)).mono ?_
    rintro e W4 ⟨rfl, hb4⟩
    have HB4 := Lib.hid (HB16.out.drew.trans (hb4.mono HB16.out.drew.size))
    have HP4 := Lib.hid (blk_below (show (w2.drew).heap[w.heap.size]? = _ from HF14.out) hb4)
    have HR4 := Lib.hid (blk_below (show (w2.drew).heap[w.heap.size + 1]? = _ from HF15.out) hb4)
    clear hb4
    refine hK _ _ HP4.out (fun hC => ?_)
    clear hK K9
    try simp only [Act.put, List.setIfInBounds_toArray, List.set_cons_zero, List.set_cons_succ]
    refine wpAnyL_ready (rs := [5]) (by kernel_rfl) (by simp) hC ?_
    refine AllReadyL.cons (o := { dst := none, op := .store 35 (.tmp 4) (.tmp 19), type := _, pos := _, after := _, guard := none }) rfl (fun K9 hK => ?_) ?_
    · skip
      have y0 : (W4).cell? ⟨w.heap.size + 1, 0, none⟩ = some (.slice none 0 0) := (cell_of_row _ _ 0 _ _ _ (show (W4).heap[w.heap.size + 1]? = _ from HR4.out)).trans rfl
      have y1 : (W4).cell? ⟨w.heap.size + 1, 1, none⟩ = some (.slice none 0 0) := (cell_of_row _ _ 1 _ _ _ (show (W4).heap[w.heap.size + 1]? = _ from HR4.out)).trans rfl
      have y2 : (W4).cell? ⟨w.heap.size + 1, 2, none⟩ = some (.int .i64 0) := (cell_of_row _ _ 2 _ _ _ (show (W4).heap[w.heap.size + 1]? = _ from HR4.out)).trans rfl
      have y3 : (W4).cell? ⟨w.heap.size + 1, 3, none⟩ = some (.bool false) := (cell_of_row _ _ 3 _ _ _ (show (W4).heap[w.heap.size + 1]? = _ from HR4.out)).trans rfl
      have y4 : (W4).cell? ⟨w.heap.size + 1, 4, none⟩ = some (.int .i64 0) := (cell_of_row _ _ 4 _ _ _ (show (W4).heap[w.heap.size + 1]? = _ from HR4.out)).trans rfl
      have f0 : (W4).frozen? ⟨w.heap.size + 1, 0, none⟩ = false := frozen_of_row _ _ _ _ _ (show (W4).heap[w.heap.size + 1]? = _ from HR4.out)
      have f1 : (W4).frozen? ⟨w.heap.size + 1, 1, none⟩ = false := frozen_of_row _ _ _ _ _ (show (W4).heap[w.heap.size + 1]? = _ from HR4.out)
      have f2 : (W4).frozen? ⟨w.heap.size + 1, 2, none⟩ = false := frozen_of_row _ _ _ _ _ (show (W4).heap[w.heap.size + 1]? = _ from HR4.out)
      have f3 : (W4).frozen? ⟨w.heap.size + 1, 3, none⟩ = false := frozen_of_row _ _ _ _ _ (show (W4).heap[w.heap.size + 1]? = _ from HR4.out)
      have f4 : (W4).frozen? ⟨w.heap.size + 1, 4, none⟩ = false := frozen_of_row _ _ _ _ _ (show (W4).heap[w.heap.size + 1]? = _ from HR4.out)
      go_simp
      have HKK := Lib.hid ((((((KK.refl [w.heap.size + 1] (W4)).set (b := w.heap.size + 1) (by simp) 0 (.slice A n c)).set (b := w.heap.size + 1) (by simp) 1 (.slice A2 n2 c2)).set (b := w.heap.size + 1) (by simp) 2 (.int .i64 ar)).set (b := w.heap.size + 1) (by simp) 3 (.bool false)).set (b := w.heap.size + 1) (by simp) 4 (.int .i64 (op + 1)))
      have HR5 := Lib.hid (show ((((((W4).setCell ⟨w.heap.size + 1, 0, none⟩ (.slice A n c)).setCell ⟨w.heap.size + 1, 1, none⟩ (.slice A2 n2 c2)).setCell ⟨w.heap.size + 1, 2, none⟩ (.int .i64 ar)).setCell ⟨w.heap.size + 1, 3, none⟩ (.bool false)).setCell ⟨w.heap.size + 1, 4, none⟩ (.int .i64 (op + 1))).heap[w.heap.size + 1]? = some (.cells #[.slice A n c, .slice A2 n2 c2, .int .i64 ar, .bool false, .int .i64 (op + 1)] 35 (0, 0)) by have q := heap_setCell_at (i := 4) (u := .int .i64 (op + 1)) (heap_setCell_at (i := 3) (u := .bool false) (heap_setCell_at (i := 2) (u := .int .i64 ar) (heap_setCell_at (i := 1) (u := .slice A2 n2 c2) (heap_setCell_at (i := 0) (u := .slice A n c) (HR4.out))))); exact q)
      have HP5 := Lib.hid (HKK.out.blk (show (W4).heap[w.heap.size]? = _ from HP4.out) (by simp <;> omega))
      have HB5 := Lib.hid (HKK.out.below HB4.out (fun b hb => by obtain rfl : b = w.heap.size + 1 := (by simpa using hb); omega) HB4.out.size)
      clear y0 y1 y2 y3 y4 f0 f1 f2 f3 f4
      generalize ((((((W4).setCell ⟨w.heap.size + 1, 0, none⟩ (.slice A n c)).setCell ⟨w.heap.size + 1, 1, none⟩ (.slice A2 n2 c2)).setCell ⟨w.heap.size + 1, 2, none⟩ (.int .i64 ar)).setCell ⟨w.heap.size + 1, 3, none⟩ (.bool false)).setCell ⟨w.heap.size + 1, 4, none⟩ (.int .i64 (op + 1))) = W5 at *
      refine hK _ _ HP5.out (fun hC => ?_)
      clear hK K9
      try simp only [Act.put, List.setIfInBounds_toArray, List.set_cons_zero, List.set_cons_succ]
      refine wpAnyL_take (i := 6) (oi := { dst := some 5, op := .assign (.tmp 23), type := _, pos := _, after := _, guard := none }) (v := ?_) rfl (by kernel_rfl) (by kernel_rfl) (by kernel_rfl) (fun _ _ _ h => h) (fun _ _ => Iff.rfl) hC (Or.inl ⟨by rfl, ?_⟩) HP5.out (fun hC hS => ?_)
      rotate_left
      · intro W9 hSw; skip; go_simp; try (with_reducible rfl)
      try simp only [Act.put, List.setIfInBounds_toArray, List.set_cons_zero, List.set_cons_succ]
      refine wpAnyL_take (i := 7) (oi := { dst := some 6, op := .assign (.const (.int Go.IntKind.i64 0)), type := _, pos := _, after := _, guard := none }) (v := ?_) rfl (by kernel_rfl) (by kernel_rfl) (by kernel_rfl) (fun _ _ _ h => h) (fun _ _ => Iff.rfl) hC (Or.inl ⟨by rfl, ?_⟩) HP5.out (fun hC hS => ?_)
      rotate_left
      · intro W9 hSw; skip; go_simp; try (with_reducible rfl)
      try simp only [Act.put, List.setIfInBounds_toArray, List.set_cons_zero, List.set_cons_succ]
      refine wpAnyL_done (by kernel_rfl) ?_ _
      go_wp2_with fail
      first
        | (refine bodyPost_ret (results_cttY rfl _ _ (w.heap.size + 1) #[.slice A n c, .slice A2 n2 c2, .int .i64 ar, .bool false, .int .i64 (op + 1)] rfl (run_loadVar_row _ (w.heap.size + 1) 35 35 _ (0, 0) _ HR5.out Try.underlying35 rfl (by kernel_rfl))) rfl ?_; exact ⟨_, rfl, ⟨A, n, c, A2, n2, c2, rfl, H1.out.below HB5.out, H2.out.below HB5.out⟩, HB5.out⟩)
        | (refine bodyPost_ret (results_cttY rfl _ _ (w.heap.size + 1) #[.slice A n c, .slice A2 n2 c2, .int .i64 ar, .bool false, .int .i64 (op + 1)] rfl (run_loadVar_row _ (w.heap.size + 1) 35 35 _ (0, 0) _ HR4.out Try.underlying35 rfl (by kernel_rfl))) rfl ?_; exact ⟨_, rfl, ⟨A, n, c, A2, n2, c2, rfl, H1.out.below HB4.out, H2.out.below HB4.out⟩, HB4.out⟩)
    exact AllReadyL.nil
  exact AllReadyL.nil
end Go.Proofs.Ytiagbadnmkeokaa

namespace Go.Proofs.Ytiagbadnmkeokaa
open Go.RowKit Vi

theorem info_u8D : (Try.prog.info? 5).map (fun i => (i.zero, i.size, i.bytes)) = some (some (.int .u8 0), 1, 1) := by kernel_rfl
def zsD (n : Nat) : List UInt8 := List.replicate n 0
theorem made_zsD (n : Nat) : madeCells (Value.int .u8 0).cells (n * 1) = ((zsD n).map fun c => Value.int .u8 (c.toNat : Int)).toArray := by
  unfold zsD madeCells Value.cells
  apply Array.ext
  · simp
  · intro j h1 h2; simp [Nat.mod_one]
theorem make_zsD (n : Nat) (hn : n ≤ 3000000) (w : World) : (Instr.makeSlice 81 (.int .i64 (n : Int)) (.int .i64 (n : Int))).run Try.prog w = .ok (.slice (some ⟨w.heap.size, 0, none⟩) n n) (w.alloc (.cells ((zsD n).map fun c => Value.int .u8 (c.toNat : Int)).toArray 5)) := by
  obtain ⟨i0, hi, hz0, hz1, hz2⟩ := info_parts info_u8D
  have h := run_make (P := Try.prog) w 81 5 i0 (.int .u8 0) Try.underlying81 hi hz0 .i64 .i64 (n : Int) (n : Int) (by omega) (Int.le_refl _) (by rw [hz2]; omega) (by omega)
  rw [h, hz1]
  simp only [Int.toNat_natCast]
  rw [made_zsD]
theorem conv_zsD (n : Nat) (w : World) (cs : Array Value) (hcs : cs = ((zsD n).map fun c => Value.int .u8 (c.toNat : Int)).toArray) :
    (convert 81 9 (.slice (some ⟨w.heap.size, 0, none⟩) n n)).run Try.prog (w.alloc (.cells cs 5)) = .ok (.string ⟨(zsD n).toArray⟩) (w.alloc (.cells cs 5)) := by
  have hl : (zsD n).length = n := by simp [zsD]
  have h := run_convert_bytes_back (P := Try.prog) (w.alloc (.cells cs 5)) 81 9 5 ⟨w.heap.size, 0, none⟩ n (zsD n) Try.underlying81 Try.underlying5 Try.underlying9 (fun j hj => by
    rw [Addr.add_lit, Nat.zero_add, cell_of_row _ _ _ _ _ _ (MapKept.heap_alloc w (.cells cs 5)).1, hcs]
    simp [hj])
  rw [hl] at h
  exact h
/-- a sector of noughts -/
def noZ : ByteArray := ⟨(zsD 128).toArray⟩
theorem noZ_size : noZ.size = 128 := by
  show (zsD 128).toArray.size = 128
  simp [zsD]
/-- a text with noughts behind it, or cut off -/
def fullT (s : ByteArray) : ByteArray := (s ++ noZ).extract 0 128
theorem fullT_size (s : ByteArray) : (fullT s).size = 128 := by
  unfold fullT
  rw [ByteArray.size_extract, ByteArray.size_append, noZ_size]
  omega
set_option maxRecDepth 100000 in
set_option maxHeartbeats 400000 in
theorem dnoughts_any (w : World) : Calls Try.prog 12 #[.int .i64 128] w fun e w' => e = .returned (.string noZ) ∧ Below w.heap.size w w' := by
  obtain ⟨cs, hcs⟩ : ∃ cs, cs = ((zsD 128).map fun c => Value.int .u8 (c.toNat : Int)).toArray := ⟨_, rfl⟩
  have hmk := make_zsD 128 (by omega)
  rw [← hcs] at hmk
  have hmk2 : ∀ W : World, (Instr.makeSlice 81 (.int .i64 128) (.int .i64 128)).run Try.prog W = .ok (.slice (some ⟨W.heap.size, 0, none⟩) 128 128) (W.alloc (.cells cs 5)) := hmk
  have hcv := conv_zsD 128 w cs hcs
  have hzz : (⟨(zsD 128).toArray⟩ : ByteArray) = noZ := rfl
  rw [hzz] at hcv
  clear hcs hmk
  generalize noZ = z at hcv ⊢
  have hmx : max (128 : Int) 0 = 128 := by decide
  go_enter Try.func12, Try.ntmps12
  go_wp2
  go_ret
  exact ⟨rfl, (Below.refl _ w).alloc (Nat.le_refl _) _⟩
theorem dfull_any (s : ByteArray) (w : World) (hs : s.size ≤ 140737488351232) :
    Calls Try.prog 39 #[.string s] w fun e w' => e = .returned (.string (fullT s)) ∧ Below w.heap.size w w' := by
  have HF := Lib.hid (show (s ++ noZ).extract 0 128 = fullT s from rfl)
  have HN := Lib.hid (fun W : World => dnoughts_any W)
  have hz := noZ_size
  generalize noZ = N at HF HN hz
  have hzi : (N.size : Int) = 128 := by omega
  have hsi : (s.size : Int) ≤ 140737488351232 := by omega
  have ha : (s ++ N).size = s.size + N.size := ByteArray.size_append
  have hb : (128 : Int) ≤ ((s ++ N).size : Int) := by omega
  have hb2 : 128 ≤ (s ++ N).size := by omega
  have hb3 : ¬ (s ++ N).size < 128 := by omega
  have HZ := Lib.hid (And.intro ha hzi)
  clear ha hz hs hzi
  have hz2 : (N.size : Int) ≤ 128 := by rw [HZ.out.2]; omega
  go_enter Try.func39, Try.ntmps39
  go_wp2_with fail
  refine (HN.out _).mono ?_
  rintro e w1 ⟨rfl, hb1⟩
  have HB := Lib.hid hb1
  clear hb1
  go_wp2
  go_ret
  exact ⟨by rw [← HF.out]; rfl, HB.out⟩
/-- an act -/
structure Ac where
  kd : Int
  at' : Int
  nn : Int
  t : ByteArray
  rw' : Bool
  ka : Option Addr
  kn : Nat
  kc : Nat
  ks : List Int
def acC (a : Ac) : List Value := [.int .i64 a.kd, .int .i64 a.at', .int .i64 a.nn, .string a.t, .bool a.rw', .slice a.ka a.kn a.kc]
theorem acC_len (a : Ac) : (acC a).length = 6 := rfl
/-- what an act holds, in a world -/
structure AcOk (w : World) (a : Ac) : Prop where
  r : RdX inC 1 w a.ka a.kn a.ks
  ws : ∀ x ∈ a.ks, (Lit.int .i64 x).wf = true
  wn : (Lit.int .i64 a.nn).wf = true
  wa : (Lit.int .i64 a.at').wf = true
  wk : (Lit.int .i64 a.kd).wf = true
  wt : a.t.size ≤ 140737488351232
  le : a.kn ≤ a.kc
  lc : a.kc ≤ maxLen
theorem AcOk.below {w w' : World} {a : Ac} (h : AcOk w a) (hb : Below w.heap.size w w') : AcOk w' a := ⟨h.r.below hb, h.ws, h.wn, h.wa, h.wk, h.wt, h.le, h.lc⟩
/-- what an act writes -/
def acT (a : Ac) : ByteArray := if a.rw' = true then a.t else fullT a.t
abbrev acV (a : Ac) : Value := .agg #[.int .i64 a.kd, .int .i64 a.at', .int .i64 a.nn, .string a.t, .bool a.rw', .slice a.ka a.kn a.kc]
set_option maxRecDepth 100000 in
theorem atext_any (a : Ac) (w : World) (hs : a.t.size ≤ 140737488351232) : Calls Try.prog 21 #[acV a] w fun e w' => e = .returned (.string (acT a)) ∧ Below w.heap.size w w' := by
  obtain ⟨kd, at0, nn, t, rw, ka, kn, kc, ks⟩ := a
  have hs : t.size ≤ 140737488351232 := hs
  have HB0 := Lib.hid ((Below.refl w.heap.size w).alloc (Nat.le_refl _) (.cells #[.int .i64 kd, .int .i64 at0, .int .i64 nn, .string t, .bool rw, .slice ka kn kc] 39 (0, 0)))
  cases rw with
  | true =>
    have HR := Lib.hid (show t = acT ⟨kd, at0, nn, t, true, ka, kn, kc, ks⟩ from rfl)
    go_enter Try.func21, Try.ntmps21
    go_wp2_with fail
    go_ret
    exact ⟨by rw [← HR.out]; rfl, HB0.out⟩
  | false =>
    have HR := Lib.hid (show fullT t = acT ⟨kd, at0, nn, t, false, ka, kn, kc, ks⟩ from rfl)
    have HF := Lib.hid (fun W : World => dfull_any t W hs)
    go_enter Try.func21, Try.ntmps21
    go_wp2_with fail
    refine (HF.out _).mono ?_
    rintro e w1 ⟨rfl, hb1⟩
    have HB1 := Lib.hid (HB0.out.trans (hb1.mono HB0.out.size))
    clear hb1
    go_wp2_with fail
    go_ret
    exact ⟨by rw [← HR.out]; rfl, HB1.out⟩
/-- so few, of so few bytes -/
def acFew (l : List Ac) : Prop := l.length ≤ 60
def wtA (a : Ac) : Int := min (a.t.size : Int) 10000 + min (a.kn : Int) 10000
def sumA (l : List Ac) : Int := (l.map wtA).foldl (· + ·) 0
theorem sumA_snoc (l : List Ac) (a : Ac) : sumA (l ++ [a]) = sumA l + wtA a := by simp [sumA]
theorem wtA_pos (a : Ac) : 0 ≤ wtA a := by unfold wtA; omega
theorem sumA_pos (l : List Ac) : 0 ≤ sumA l := by
  have : ∀ (l : List Ac) (z : Int), 0 ≤ z → 0 ≤ (l.map wtA).foldl (· + ·) z := fun l => by
    induction l with
    | nil => intro z hz; exact hz
    | cons a r ih => intro z hz; exact ih (z + wtA a) (by have := wtA_pos a; omega)
  exact this l 0 (Int.le_refl _)
theorem sumA_bd (l : List Ac) : sumA l ≤ 20000 * (l.length : Int) := by
  have : ∀ (l : List Ac) (z : Int), (l.map wtA).foldl (· + ·) z ≤ z + 20000 * (l.length : Int) := fun l => by
    induction l with
    | nil => intro z; simp
    | cons b r ih =>
      intro z
      have := ih (z + wtA b)
      have hb : wtA b ≤ 20000 := by unfold wtA; omega
      show (r.map wtA).foldl (· + ·) (z + wtA b) ≤ _
      rw [List.length_cons]
      push_cast
      omega
  have := this l 0
  unfold sumA
  omega
/-- whether acts are few is told -/
def FewP (l : List Ac) (w : World) (e : Ending) (w' : World) : Prop := ∃ b, e = .returned (.bool b) ∧ (b = true → acFew l) ∧ Below w.heap.size w w'
set_option maxRecDepth 100000 in
set_option maxHeartbeats 1000000 in
theorem few7_any (A : Option Addr) (n c : Nat) (l : List Ac) (w : World) (h : RdX acC 6 w A n l) (hm : n ≤ maxLen) :
    Calls Try.prog 8 #[.slice A n c] w (FewP l w) := by
  have H := Lib.hid h
  have HL := Lib.hid h.1
  have hm1 : n ≤ 9223372036854775807 := Nat.le_trans hm (by decide)
  clear h hm
  go_enter Try.func8, Try.ntmps8
  go_wp2_with fail
  go_loopw [3, 4] (fun s i wr => ∃ k : Nat, s = .int .i64 (sumA (l.take k)) ∧ i = .int .i64 (k : Int) ∧ k ≤ n ∧ k ≤ 61 ∧ Below w.heap.size w wr) (fun _ i _ => 61 - (intOf i).toNat)
  case atStart => exact ⟨0, rfl, rfl, Nat.zero_le _, Nat.zero_le _, Below.refl _ _⟩
  case round =>
    obtain ⟨k, rfl, rfl, hk, hk6, hb⟩ := hrel
    have HB := Lib.hid hb
    clear hb
    have hp := sumA_pos (l.take k)
    have hbd : sumA (l.take k) ≤ 20000 * 61 := by
      have q := sumA_bd (l.take k)
      have q2 : ((l.take k).length : Int) ≤ 61 := by rw [List.length_take]; omega
      omega
    obtain ⟨z, hz⟩ : ∃ z, z = sumA (l.take k) := ⟨_, rfl⟩
    rw [← hz] at hp hbd ⊢
    have HZ := Lib.hid hz
    clear hz
    by_cases hlt : k < n
    · have hd1 : decide ((k : Int) < (n : Int)) = true := decide_eq_true (by omega)
      have hi0 : (0 : Int) ≤ (k : Int) := by omega
      by_cases h60 : k ≤ 60
      · have hd2 : decide ((k : Int) ≤ 60) = true := decide_eq_true (by omega)
        obtain ⟨b, off, hl2, rfl, hbb, hcell⟩ := (H.out.below HB.out).at hlt
        have c3 := hcell 3 (.string l[k].t) rfl
        have c5 := hcell 5 (.slice l[k].ka l[k].kn l[k].kc) rfl
        have HT := Lib.hid (show sumA (l.take (k + 1)) = z + wtA l[k] by rw [List.take_succ_eq_append_getElem hl2, sumA_snoc, ← HZ.out])
        obtain ⟨x, hx⟩ : ∃ x, x = l[k] := ⟨_, rfl⟩
        rw [← hx] at c3 c5 HT
        clear hcell hx
        have r3 := fun d os => cell_regrown c3 d os
        have r5 := fun d os => cell_regrown c5 d os
        have HW := Lib.hid (show min (x.t.size : Int) 10000 + min (x.kn : Int) 10000 = wtA x from rfl)
        have hs1 : IntKind.i64.wrap (min (x.t.size : Int) 10000 + min (x.kn : Int) 10000) = min (x.t.size : Int) 10000 + min (x.kn : Int) 10000 := IntWalk.i64_in _ (by omega)
        have hs2 : IntKind.i64.wrap (z + (min (x.t.size : Int) 10000 + min (x.kn : Int) 10000)) = z + (min (x.t.size : Int) 10000 + min (x.kn : Int) 10000) := IntWalk.i64_in _ (by omega)
        go_upto_region 5 with (fail)
        refine wp_region_quiet_below (by kernel_rfl) (by kernel_rfl) ?_
        repeat (any_goals (first | go_big_quiet_step (fail) | quiet_step (fail)))
        refine wpQuiet_nil ?_
        intro w1 hw1
        have hb1 := below_anyY hw1
        have HB1 := Lib.hid (HB.out.trans (hb1.mono HB.out.size))
        clear hw1 hb1 c3 c5 r3 r5 hs1 hs2
        go_wp2_with fail
        go_roundw
        case rel => exact ⟨k + 1, by rw [HT.out, ← HW.out], by go_num, by omega, by omega, HB1.out⟩
        case measure => simp [intOf] <;> omega
      · have hd2 : decide ((k : Int) ≤ 60) = false := decide_eq_false (by omega)
        have hd3 : decide ((n : Int) ≤ 60) = false := decide_eq_false (by omega)
        go_wp2_with fail
        go_ret
        exact ⟨false, rfl, (fun h => by cases h), HB.out⟩
    · have hd1 : decide ((k : Int) < (n : Int)) = false := decide_eq_false (by omega)
      have HE := Lib.hid (show l.take k = l from List.take_of_length_le (by have := HL.out; omega))
      by_cases h60 : n ≤ 60
      · have hd3 : decide ((n : Int) ≤ 60) = true := decide_eq_true (by omega)
        by_cases hq : z ≤ 10000
        · have hd4 : decide (z ≤ 10000) = true := decide_eq_true hq
          have HF := Lib.hid (show acFew l from by have := HL.out; unfold acFew; omega)
          go_wp2_with fail
          go_ret
          exact ⟨true, rfl, (fun _ => HF.out), HB.out⟩
        · have hd4 : decide (z ≤ 10000) = false := decide_eq_false hq
          go_wp2_with fail
          go_ret
          exact ⟨false, rfl, (fun h => by cases h), HB.out⟩
      · have hd3 : decide ((n : Int) ≤ 60) = false := decide_eq_false (by omega)
        go_wp2_with fail
        go_ret
        exact ⟨false, rfl, (fun h => by cases h), HB.out⟩
end Go.Proofs.Ytiagbadnmkeokaa

namespace Go.Proofs.Ytiagbadnmkeokaa
open Go.RowKit Vi

theorem size_strD : (Try.prog.info? 9).map (·.size) = some 1 := by kernel_rfl
/-- a new row of empty texts -/
def empD (n : Nat) : List Value := List.replicate n (.string ⟨#[]⟩)
theorem made_empD (n : Nat) : madeCells (Value.string ⟨#[]⟩).cells (n * 1) = (empD n).toArray := by
  unfold empD madeCells Value.cells
  apply Array.ext
  · simp
  · intro j h1 h2; simp [Nat.mod_one]
theorem make_atD (w : World) (n : Nat) (hn : n ≤ 3000000) : (Instr.makeSlice 29 (.int .i64 (n : Int)) (.int .i64 (n : Int))).run Try.prog w = .ok (.slice (some ⟨w.heap.size, 0, none⟩) n n) (w.alloc (.cells (empD n).toArray 9)) := by
  obtain ⟨i0, hi, hz0, hz1, hz2⟩ := info_parts info_stA
  have h := run_make (P := Try.prog) w 29 9 i0 (.string ⟨#[]⟩) Try.underlying29 hi hz0 .i64 .i64 (n : Int) (n : Int) (by omega) (Int.le_refl _) (by rw [hz2]; omega) (by omega)
  rw [h, hz1]
  simp only [Int.toNat_natCast]
  rw [made_empD]
/-- a row whose first k texts are s -/
def rpD (s : ByteArray) (k n : Nat) : List Value := List.replicate k (.string s) ++ empD (n - k)
theorem rpD_len (s : ByteArray) (k n : Nat) (h : k ≤ n) : (rpD s k n).length = n := by simp [rpD, empD]; omega
theorem rpD_splice (s : ByteArray) (k m n : Nat) (h : k + m ≤ n) : splice (rpD s k n) k (List.replicate m (.string s)) = rpD s (k + m) n := by
  unfold splice rpD
  rw [List.take_left' (by simp), List.length_replicate, List.drop_append, List.length_replicate, List.drop_eq_nil_of_le (by simp), List.nil_append, ← List.append_assoc, List.replicate_append_replicate]
  congr 1
  unfold empD
  rw [List.drop_replicate]
  congr 1
  omega
theorem rpD_zero (s : ByteArray) (n : Nat) : rpD s 0 n = empD n := by simp [rpD]
theorem rpD_all (s : ByteArray) (n : Nat) : rpD s n n = (List.replicate n s).map Value.string := by simp [rpD, empD]
/-- a row of one text is handed back -/
def RepP (s : ByteArray) (n : Nat) (w : World) (e : Ending) (w' : World) : Prop := ∃ A, e = .returned (.slice (some A) n n) ∧ RdX stC 1 w' (some A) n (List.replicate n s) ∧ Below w.heap.size w w'
set_option maxRecDepth 100000 in
set_option maxHeartbeats 4000000 in
theorem drepeat_any (s : ByteArray) (b c n : Nat) (w : World) (hb : w.cell? ⟨b, 0, none⟩ = some (.string s)) (h1 : 1 ≤ n) (hn : n ≤ 4096) :
    Calls Try.prog 42 #[.slice (some ⟨b, 0, none⟩) 1 c, .int .i64 (n : Int)] w (RepP s n w) := by
  have hbl : b < w.heap.size := World.block_lt_of_cell? w _ hb
  have HM := Lib.hid (fun W : World => (Try.bits_Mul 1 n (by omega) (by omega) W))
  have e1 : 1 * n / 18446744073709551616 = 0 := Nat.div_eq_of_lt (by omega)
  have e2 : 1 * n % 18446744073709551616 = n := by rw [Nat.one_mul]; exact Nat.mod_eq_of_lt (by omega)
  rw [e1, e2] at HM
  have HM : Hid (∀ W : World, Calls Try.prog 75 #[.int .u64 1, .int .u64 (n : Int)] W fun e w' => e = .returned (.tuple #[.int .u64 0, .int .u64 (n : Int)]) ∧ W = w') := Lib.hid (fun W => (HM.out W).mono fun _ _ h => ⟨h.1, h.2.symm⟩)
  clear e1 e2
  have hmk := fun W => make_atD W n (by omega)
  have HB0 := Lib.hid ((Below.refl w.heap.size w).alloc (Nat.le_refl _) (.cells (empD n).toArray 9))
  have HS0 : Hid ((w.alloc (.cells (empD n).toArray 9)).cell? ⟨b, 0, none⟩ = some (.string s)) := Lib.hid ((HB0.out.cell (p := ⟨b, 0, none⟩) hbl).trans hb)
  have hn1 : (1 : Int) ≤ (n : Int) := by omega
  have hn2 : (n : Int) ≤ 4096 := by omega
  clear hb
  go_enter Try.func42, Try.ntmps42
  go_wp2_with fail
  refine (HM.out _).mono ?_
  rintro e w' ⟨rfl, rfl⟩
  go_wp2_with (with_reducible refine wpList_copy_splice rfl (.tmp 31) (.tmp 32) 29 29 rfl 9 Try.underlying29 size_strD (some ⟨w.heap.size, 0, none⟩) (some ⟨b, 0, none⟩) n n 1 c rfl rfl w.heap.size 0 (empD n) 9 (MapKept.heap_alloc _ _).1 [.string s] ?n1 (fun _ => ⟨rfl, _, rfl, ?s1⟩) ?f1 ?o1 w.heap.size w HB0.out (Nat.le_refl _) ?_)
  case n1 => exact (Nat.min_eq_left h1).symm
  case s1 =>
    intro j v hj
    have h0 : j = 0 := by
      have := (List.getElem?_eq_some_iff.1 hj).1
      simp at this
      omega
    subst h0
    rw [Addr.add_lit]
    have e : v = .string s := by simpa using hj.symm
    rw [e]
    exact HS0.out
  case f1 => simp [empD]; omega
  case o1 => intro v hv; obtain rfl := List.mem_singleton.1 hv; rfl
  intro w1 hw1 hb1
  have HR1 : Hid (w1.heap[w.heap.size]? = some (.cells (rpD s 1 n).toArray 9 (0, 0))) := Lib.hid (by
    have q := hw1.out
    rw [← rpD_zero s n] at q
    have e : splice (rpD s 0 n) 0 [Value.string s] = rpD s 1 n := rpD_splice s 0 1 n (by omega)
    rw [e] at q
    exact q)
  have HB1 := Lib.hid hb1
  clear hw1 hb1 hmk HM
  go_wp2_with fail
  go_loopw [8] (fun i wr => ∃ k : Nat, i = .int .i64 (k : Int) ∧ 1 ≤ k ∧ k ≤ n ∧ wr.heap[w.heap.size]? = some (.cells (rpD s k n).toArray 9 (0, 0)) ∧ Below w.heap.size w wr) (fun i _ => n - (intOf i).toNat)
  case atStart => exact ⟨1, rfl, Nat.le_refl _, h1, HR1.out, HB1.out⟩
  case round =>
    obtain ⟨k, rfl, hk1, hk, hr, hb⟩ := hrel
    have HR := Lib.hid hr
    have HB := Lib.hid hb
    clear hr hb
    by_cases hlt : k < n
    · have hd1 : decide ((k : Int) < (n : Int)) = true := decide_eq_true (by omega)
      have hi0 : (0 : Int) ≤ (k : Int) := by omega
      have hi1 : (k : Int) ≤ (n : Int) := by omega
      obtain ⟨m, hm⟩ : ∃ m, m = Nat.min k (n - k) := ⟨_, rfl⟩
      have hm1 : m ≤ k := by rw [hm]; exact Nat.min_le_left _ _
      have hm2 : k + m ≤ n := by have : m ≤ n - k := by rw [hm]; exact Nat.min_le_right _ _
                                 omega
      have hm3 : 1 ≤ m := by rw [hm]; exact Nat.le_min.2 ⟨hk1, by omega⟩
      have HMm := Lib.hid hm
      clear hm
      have hs1 : IntKind.i64.wrap ((k : Int) + (m : Int)) = (k : Int) + (m : Int) := IntWalk.i64_in _ (by omega)
      have hnk : ¬ n = k := by omega
      go_upto_region 9 with (fail)
      refine wp_region_L_drew (S := fun _ _ => True) (by kernel_rfl) trivial (fun hS hC => ?_)
      refine wpAnyL_take (i := 0) (oi := { dst := some 38, op := .move (.tmp 8), type := _, pos := _, after := _, guard := none }) (v := ?_) rfl (by kernel_rfl) (by kernel_rfl) (by kernel_rfl) (fun _ _ _ h => h) (fun _ _ => Iff.rfl) hC (Or.inl ⟨by rfl, ?_⟩) hS (fun hC hS => ?_)
      rotate_left
      · intro W9 hSw; skip; go_simp; try (with_reducible rfl)
      try simp only [Act.put, List.setIfInBounds_toArray, List.set_cons_zero, List.set_cons_succ]
      refine wpAnyL_take (i := 1) (oi := { dst := some 39, op := .move (.tmp 7), type := _, pos := _, after := _, guard := none }) (v := ?_) rfl (by kernel_rfl) (by kernel_rfl) (by kernel_rfl) (fun _ _ _ h => h) (fun _ _ => Iff.rfl) hC (Or.inl ⟨by rfl, ?_⟩) hS (fun hC hS => ?_)
      rotate_left
      · intro W9 hSw; skip; go_simp; try (with_reducible rfl)
      try simp only [Act.put, List.setIfInBounds_toArray, List.set_cons_zero, List.set_cons_succ]
      refine wpAnyL_take (i := 2) (oi := { dst := some 40, op := .move (.tmp 8), type := _, pos := _, after := _, guard := none }) (v := ?_) rfl (by kernel_rfl) (by kernel_rfl) (by kernel_rfl) (fun _ _ _ h => h) (fun _ _ => Iff.rfl) hC (Or.inl ⟨by rfl, ?_⟩) hS (fun hC hS => ?_)
      rotate_left
      · intro W9 hSw; skip; go_simp; try (with_reducible rfl)
      try simp only [Act.put, List.setIfInBounds_toArray, List.set_cons_zero, List.set_cons_succ]
      refine wpAnyL_take (i := 3) (oi := { dst := some 41, op := .slice 29 (.tmp 39) (some (.tmp 40)) none none, type := _, pos := _, after := _, guard := none }) (v := ?_) rfl (by kernel_rfl) (by kernel_rfl) (by kernel_rfl) (fun _ _ _ h => h) (fun _ _ => Iff.rfl) hC (Or.inl ⟨by rfl, ?_⟩) hS (fun hC hS => ?_)
      rotate_left
      · intro W9 hSw; skip; go_simp; try (with_reducible rfl)
      try simp only [Act.put, List.setIfInBounds_toArray, List.set_cons_zero, List.set_cons_succ]
      refine wpAnyL_take (i := 4) (oi := { dst := some 42, op := .move (.tmp 7), type := _, pos := _, after := _, guard := none }) (v := ?_) rfl (by kernel_rfl) (by kernel_rfl) (by kernel_rfl) (fun _ _ _ h => h) (fun _ _ => Iff.rfl) hC (Or.inl ⟨by rfl, ?_⟩) hS (fun hC hS => ?_)
      rotate_left
      · intro W9 hSw; skip; go_simp; try (with_reducible rfl)
      try simp only [Act.put, List.setIfInBounds_toArray, List.set_cons_zero, List.set_cons_succ]
      refine wpAnyL_take (i := 5) (oi := { dst := some 43, op := .move (.tmp 8), type := _, pos := _, after := _, guard := none }) (v := ?_) rfl (by kernel_rfl) (by kernel_rfl) (by kernel_rfl) (fun _ _ _ h => h) (fun _ _ => Iff.rfl) hC (Or.inl ⟨by rfl, ?_⟩) hS (fun hC hS => ?_)
      rotate_left
      · intro W9 hSw; skip; go_simp; try (with_reducible rfl)
      try simp only [Act.put, List.setIfInBounds_toArray, List.set_cons_zero, List.set_cons_succ]
      refine wpAnyL_take (i := 6) (oi := { dst := some 44, op := .slice 29 (.tmp 42) none (some (.tmp 43)) none, type := _, pos := _, after := _, guard := none }) (v := ?_) rfl (by kernel_rfl) (by kernel_rfl) (by kernel_rfl) (fun _ _ _ h => h) (fun _ _ => Iff.rfl) hC (Or.inl ⟨by rfl, ?_⟩) hS (fun hC hS => ?_)
      rotate_left
      · intro W9 hSw; skip; go_simp; try (with_reducible rfl)
      try simp only [Act.put, List.setIfInBounds_toArray, List.set_cons_zero, List.set_cons_succ]
      refine wpAnyL_ready (rs := [7]) (by kernel_rfl) (by simp) hC ?_
      refine AllReadyL.cons (o := { dst := some 45, op := .call { callee := .builtin .copy, args := #[.tmp 41, .tmp 44], argTypes := #[29, 29] }, type := _, pos := _, after := _, guard := none }) rfl (fun K9 hK => ?_) ?_
      · skip
        refine step_copy_splice rfl (.tmp 41) (.tmp 44) 29 29 rfl 9 Try.underlying29 size_strD (some ⟨w.heap.size, k, none⟩) (some ⟨w.heap.size, 0, none⟩) (n - k) (n - k) k n ?d1 ?d2 w.heap.size k (rpD s k n) 9 HR.out (List.replicate m (.string s)) ?d3 (fun _ => ⟨rfl, _, rfl, ?d4⟩) ?d5 ?d6 w.heap.size w HB.out.drew (Nat.le_refl _) ?_
        case d1 => first | rfl | (trace_state; sorry)
        case d2 => first | rfl | (trace_state; sorry)
        case d3 => rw [List.length_replicate]; exact HMm.out
        case d4 =>
          intro j v hj
          have hjm : j < m := by
            have := (List.getElem?_eq_some_iff.1 hj).1
            simpa using this
          have e : v = .string s := by
            rw [List.getElem?_replicate, if_pos hjm] at hj
            simpa using hj.symm
          rw [Addr.add_lit, Nat.zero_add, e, cell_of_row _ _ _ _ _ _ (show wr.drew.heap[w.heap.size]? = _ from HR.out)]
          unfold rpD
          rw [List.getElem?_toArray, List.getElem?_append_left (by simp; omega), List.getElem?_replicate, if_pos (by omega)]
        case d5 => rw [List.length_replicate, rpD_len s k n hk]; exact hm2
        case d6 => intro v hv; obtain ⟨_, rfl⟩ := List.mem_replicate.1 hv; rfl
        intro w2 hw2 hb2
        have HR2 : Hid (w2.heap[w.heap.size]? = some (.cells (rpD s (k + m) n).toArray 9 (0, 0))) := Lib.hid (by rw [← rpD_splice s k m n hm2]; exact hw2.out)
        have HB2 := Lib.hid hb2
        clear hw2 hb2
        rw [List.length_replicate]
        refine hK _ _ trivial (fun hC => ?_)
        clear hK K9
        try simp only [Act.put, List.setIfInBounds_toArray, List.set_cons_zero, List.set_cons_succ]
        refine wpAnyL_take (i := 8) (oi := { dst := some 46, op := .binOp .add 3 (.tmp 38) (.tmp 45) 3, type := _, pos := _, after := _, guard := none }) (v := ?_) rfl (by kernel_rfl) (by kernel_rfl) (by kernel_rfl) (fun _ _ _ h => h) (fun _ _ => Iff.rfl) hC (Or.inl ⟨by rfl, ?_⟩) trivial (fun hC hS => ?_)
        rotate_left
        · intro W9 hSw; skip; go_simp; try (with_reducible rfl)
        try simp only [Act.put, List.setIfInBounds_toArray, List.set_cons_zero, List.set_cons_succ]
        refine wpAnyL_take (i := 9) (oi := { dst := some 8, op := .assign (.tmp 46), type := _, pos := _, after := _, guard := none }) (v := ?_) rfl (by kernel_rfl) (by kernel_rfl) (by kernel_rfl) (fun _ _ _ h => h) (fun _ _ => Iff.rfl) hC (Or.inl ⟨by rfl, ?_⟩) trivial (fun hC hS => ?_)
        rotate_left
        · intro W9 hSw; skip; go_simp; try (with_reducible rfl)
        try simp only [Act.put, List.setIfInBounds_toArray, List.set_cons_zero, List.set_cons_succ]
        refine wpAnyL_done (by kernel_rfl) ?_ _
        go_wp2_with fail
        go_roundw
        case rel => exact ⟨k + m, by first | go_num | (simp [goInt]; done) | (simp [goInt]; omega), by omega, hm2, HR2.out, HB2.out⟩
        case measure => simp [intOf] <;> omega
      exact AllReadyL.nil
    · have hd1 : decide ((k : Int) < (n : Int)) = false := decide_eq_false (by omega)
      have hke : k = n := by omega
      subst hke
      have HF := Lib.hid (show RdX stC 1 wr (some ⟨w.heap.size, 0, none⟩) k (List.replicate k s) from ⟨by simp, fun _ => ⟨w.heap.size, 0, rfl, lt_of_block HR.out, fun j x i u hj hu => by
        have hjm := (List.getElem?_eq_some_iff.1 hj).1
        have hi := (List.getElem?_eq_some_iff.1 hu).1
        simp [stC] at hi
        subst hi
        have e2 := HR.out
        rw [rpD_all] at e2
        rw [cell_of_row _ _ _ _ _ _ e2, Nat.zero_add, Nat.mul_one, Nat.add_zero, List.getElem?_toArray, List.getElem?_map, hj]
        exact hu⟩⟩)
      go_wp2_with fail
      go_ret
      exact ⟨_, rfl, HF.out, HB.out⟩
theorem repZ : (⟨(Lib.repeatL [(0 : UInt8)] 128).toArray⟩ : ByteArray) = noZ := by
  have h : ∀ k, Lib.repeatL [(0 : UInt8)] k = List.replicate k 0 := fun k => by
    induction k with
    | zero => rfl
    | succ k ih => rw [List.replicate_succ, ← ih]; rfl
  unfold noZ zsD
  rw [h]
set_option maxRecDepth 100000 in
theorem dnew_no (n : Int) (w : World) (h : ¬ (16 ≤ n ∧ n ≤ 4096)) : Calls Try.prog 10 #[.int .i64 n] w (NoD w) := by
  have HZ := dsize_any n w
  rw [decide_eq_false h] at HZ
  have HZ := Lib.hid HZ
  clear h
  go_enter Try.func10, Try.ntmps10
  go_wp2_with fail
  refine HZ.out.mono ?_
  rintro e w' ⟨rfl, rfl⟩
  go_wp2_with fail
  go_ret2
  exact ⟨rfl, Below.refl _ _⟩
theorem may_new (n : Nat) (h1 : 16 ≤ n) (h2 : n ≤ 4096) : true = mayI (List.replicate n noZ) [] := by
  unfold mayI
  rw [List.length_replicate, decide_eq_true (by omega), decide_eq_true (by simp)]
  have : (List.replicate n noZ).any badS = false := by
    rw [List.any_eq_false]
    intro x hx
    obtain ⟨_, rfl⟩ := List.mem_replicate.1 hx
    unfold badS
    rw [decide_eq_true noZ_size]
    simp
  rw [this]
  rfl
set_option maxRecDepth 100000 in
set_option maxHeartbeats 2000000 in
theorem dnew_yes (n : Nat) (w : World) (h1 : 16 ≤ n) (h2 : n ≤ 4096) : Calls Try.prog 10 #[.int .i64 (n : Int)] w (NewD (List.replicate n noZ) [] w) := by
  have HZ := dsize_any (n : Int) w
  rw [decide_eq_true (by omega)] at HZ
  have HZ := Lib.hid HZ
  have HS := Lib.hid (Try.strings_Repeat ⟨#[0]⟩ 128 w (by omega) (by show 1 * 128 ≤ _; omega))
  have HE := Lib.hid repZ
  have HMY := Lib.hid (may_new n h1 h2)
  go_enter Try.func10, Try.ntmps10
  go_wp2_with fail
  refine HZ.out.mono ?_
  rintro e w' ⟨rfl, rfl⟩
  go_wp2_with fail
  refine HS.out.mono ?_
  rintro e w1 ⟨he, hb1⟩
  have hz : Ending.returned (.string ⟨(Lib.repeatL (⟨#[0]⟩ : ByteArray).data.toList 128).toArray⟩) = Ending.returned (.string noZ) := congrArg (fun x => Ending.returned (Value.string x)) HE.out
  rw [hz] at he
  subst he
  have HB1 := Lib.hid hb1
  clear hb1 hz
  have HB2 := Lib.hid (HB1.out.alloc HB1.out.size (.cells #[.string noZ] 9 (0, 0)))
  have HX := Lib.hid (blk_new w1 (.cells #[.string noZ] 9 (0, 0)))
  have HR := Lib.hid (drepeat_any noZ w1.heap.size 1 n _ ((cell_of_row _ _ 0 _ _ _ HX.out).trans rfl) (by omega) h2)
  go_wp2_with fail
  refine HR.out.mono ?_
  rintro e w2 ⟨A, rfl, hr, hb2⟩
  have HB3 := Lib.hid (HB2.out.trans (hb2.mono HB2.out.size))
  have HRD : Hid (RdX stC 1 w2 (some A) (List.replicate n noZ).length (List.replicate n noZ)) := Lib.hid (by rw [List.length_replicate]; exact hr)
  have HL := dload_any (some A) n none 0 (List.replicate n noZ) [] w2 HRD.out RdX.nil (by rw [List.length_replicate]; omega) (by simp) true HMY.out
  rw [List.length_replicate] at HL
  have HL := Lib.hid HL
  clear hr hb2
  go_wp2_with fail
  refine HL.out.mono ?_
  rintro e w3 ⟨hy, _⟩
  obtain ⟨D, rfl, hd, hi, hb3⟩ := hy (by first | rfl | trivial)
  have HD := Lib.hid hd
  have HI := Lib.hid hi
  have HB4 := Lib.hid (HB3.out.trans (hb3.mono HB3.out.size))
  clear hy hd hi hb3
  go_wp2_with fail
  go_ret2
  exact ⟨D, rfl, HD.out, fun b q => Nat.le_trans HB3.out.size (HI.out b q), HB4.out⟩
end Go.Proofs.Ytiagbadnmkeokaa

namespace Go.Proofs.Ytiagbadnmkeokaa
open Go.RowKit Vi

theorem InD.back {D : Nat} {w w' : World} (hb : Below w.heap.size w w') (hD : D < w.heap.size) {b : Nat} (q : InD D w' b) : InD D w b := by
  rcases q with q | ⟨o, n, c, q⟩ | ⟨o, n, c, q⟩
  · exact .inl q
  · exact .inr (.inl ⟨o, n, c, by rw [← hb.cell (p := ⟨D, 0, none⟩) hD]; exact q⟩)
  · exact .inr (.inr ⟨o, n, c, by rw [← hb.cell (p := ⟨D, 1, none⟩) hD]; exact q⟩)
/-- the program's disk is d, its blocks lie from n on, what lay below n of w0 lies as it lay -/
structure DW (n : Nat) (w0 : World) (D : Nat) (d : Ds) (w : World) : Prop where
  dk : DK D d.S d.C d.go d.op d.ar w
  far : ∀ b, InD D w b → n ≤ b
  bel : Below n w0 w
  sz : n ≤ w.heap.size
theorem DW.lt {n : Nat} {w0 : World} {D : Nat} {d : Ds} {w : World} (h : DW n w0 D d w) : D < w.heap.size := h.dk.lt
theorem DW.kd {n : Nat} {w0 : World} {D : Nat} {d d' : Ds} {w w' : World} (h : DW n w0 D d w) (k : Kd D w w') (h' : DK D d'.S d'.C d'.go d'.op d'.ar w') : DW n w0 D d' w' :=
  ⟨h', fun b q => by
    rcases Nat.lt_or_ge b w.heap.size with hb | hb
    · exact h.far b (k.ind b hb q)
    · exact Nat.le_trans h.sz hb, ⟨k.os.trans h.bel.os, k.tape.trans h.bel.tape, k.output.trans h.bel.output, Nat.le_trans h.bel.size k.size, fun b hb => (k.block b (Nat.lt_of_lt_of_le hb h.sz) (fun q => by have := h.far b q; omega)).trans (h.bel.block b hb)⟩, Nat.le_trans h.sz k.size⟩
theorem DW.below {n : Nat} {w0 : World} {D : Nat} {d : Ds} {w w' : World} (h : DW n w0 D d w) (hb : Below w.heap.size w w') : DW n w0 D d w' := h.kd (Kd.of_below hb h.lt) (h.dk.kept hb)
/-- few enough of all -/
structure DsOk (k : Nat) (d : Ds) : Prop where
  s1 : 16 ≤ d.S.length
  s2 : d.S.length ≤ 4096
  c : d.C.length ≤ 4096 + k
  a1 : 0 ≤ d.ar
  a2 : d.ar ≤ 9223372036854775807
  o1 : 0 ≤ d.op
  o2 : d.op ≤ (k : Int)
/-- a write -/
def Ds.wrE (d : Ds) (i : Int) (s : ByteArray) : Int := if d.go = true then 7 else if dckE d.S.length i s ≠ 0 then dckE d.S.length i s else stpE d.ar
def Ds.wrt (d : Ds) (i : Int) (s : ByteArray) : Ds := if d.go = true then d else if dckE d.S.length i s ≠ 0 then d else ⟨d.S, wrtC d.ar d.C i s, stpF d.ar, stpD d.ar, stpO d.op d.ar⟩
/-- a flush -/
def Ds.flE (d : Ds) : Int := if d.go = true then 7 else stpE d.ar
def Ds.fls (d : Ds) : Ds := if d.go = true then d else ⟨flsS d.ar d.S d.C, stpC d.ar d.C, stpF d.ar, stpD d.ar, stpO d.op d.ar⟩
def Ds.arm (d : Ds) (k : Int) : Ds := if armE d.go k = 0 then ⟨d.S, d.C, k, d.go, d.op⟩ else d
def Ds.crash (d : Ds) (ks : List Int) : Ds := ⟨setP (inK ks) 0 d.C d.S, [], 0, true, d.op⟩
def Ds.boot (d : Ds) : Ds := ⟨d.S, [], 0, false, d.op⟩
def Ds.over (d : Ds) (i : Int) (s : ByteArray) : Ds := ⟨overS d.S i s, d.C, d.ar, d.go, d.op⟩
def Ds.rdE (d : Ds) (i : Int) : Int := if d.go = true then 7 else if 0 ≤ i ∧ i < (d.S.length : Int) then 0 else 8
def Ds.rdS (d : Ds) (i : Int) : ByteArray := if d.rdE i = 0 then shw d.S d.C i else ⟨#[]⟩
def Ds.red (d : Ds) (i : Int) : Ds := if d.rdE i = 0 then ⟨d.S, d.C, d.ar, d.go, d.op + 1⟩ else d
theorem setP_none (C : List Wr) (k : Nat) (S : List ByteArray) : setP (inK []) k C S = S := by
  induction C generalizing k S with
  | nil => rfl
  | cons x r ih => exact ih _ _
theorem setP_all (C : List Wr) (k : Nat) (S : List ByteArray) : setP allK k C S = safeW S C := by
  induction C generalizing k S with
  | nil => rfl
  | cons x r ih => exact ih _ _
theorem stpF_bd {a : Int} (h1 : 0 ≤ a) (h2 : a ≤ 9223372036854775807) : 0 ≤ stpF a ∧ stpF a ≤ 9223372036854775807 := by unfold stpF; split <;> omega
theorem stpO_bd {o a : Int} : o ≤ stpO o a ∧ stpO o a ≤ o + 1 := by unfold stpO; split <;> omega
theorem DsOk.wrt {k : Nat} {d : Ds} (h : DsOk k d) (i : Int) (s : ByteArray) : DsOk (k + 1) (d.wrt i s) := by
  obtain ⟨h1, h2, h3, h4, h5, h6, h7⟩ := h
  have f := stpF_bd h4 h5
  have o := stpO_bd (o := d.op) (a := d.ar)
  unfold Ds.wrt
  split
  · exact ⟨h1, h2, by omega, h4, h5, h6, by omega⟩
  · split
    · exact ⟨h1, h2, by omega, h4, h5, h6, by omega⟩
    · refine ⟨h1, h2, ?_, f.1, f.2, by show 0 ≤ stpO _ _; omega, by show stpO _ _ ≤ _; omega⟩
      show (wrtC d.ar d.C i s).length ≤ _
      unfold wrtC
      split
      · omega
      · rw [List.length_append]; simp; omega
theorem flsS_len (a : Int) (S : List ByteArray) (C : List Wr) : (flsS a S C).length = S.length := by unfold flsS; split; rfl; exact setP_len _ _ _ _
theorem DsOk.fls {k : Nat} {d : Ds} (h : DsOk k d) : DsOk (k + 1) d.fls := by
  obtain ⟨h1, h2, h3, h4, h5, h6, h7⟩ := h
  have f := stpF_bd h4 h5
  have o := stpO_bd (o := d.op) (a := d.ar)
  have hl := flsS_len d.ar d.S d.C
  unfold Ds.fls
  split
  · exact ⟨h1, h2, by omega, h4, h5, h6, by omega⟩
  · refine ⟨by show 16 ≤ (flsS _ _ _).length; omega, by show (flsS _ _ _).length ≤ _; omega, ?_, f.1, f.2, by show 0 ≤ stpO _ _; omega, by show stpO _ _ ≤ _; omega⟩
    show (stpC d.ar d.C).length ≤ _
    unfold stpC
    split
    · omega
    · simp
theorem DsOk.arm {k : Nat} {d : Ds} (h : DsOk k d) (n : Int) (hn : n ≤ 9223372036854775807) : DsOk (k + 1) (d.arm n) := by
  obtain ⟨h1, h2, h3, h4, h5, h6, h7⟩ := h
  unfold Ds.arm
  split
  · next q =>
    have : ¬ n < 0 := fun e => by
      unfold armE at q
      by_cases hg : d.go = true
      · rw [if_pos hg] at q; cases q
      · rw [if_neg hg, if_pos e] at q; cases q
    exact ⟨h1, h2, by show d.C.length ≤ _; omega, by show 0 ≤ n; omega, hn, h6, by show d.op ≤ _; omega⟩
  · exact ⟨h1, h2, by omega, h4, h5, h6, by omega⟩
theorem DsOk.crash {k : Nat} {d : Ds} (h : DsOk k d) (ks : List Int) : DsOk (k + 1) (d.crash ks) := by
  have hl := setP_len (inK ks) d.C 0 d.S
  exact ⟨by show 16 ≤ (setP _ _ _ _).length; rw [hl]; exact h.s1, by show (setP _ _ _ _).length ≤ _; rw [hl]; exact h.s2, Nat.zero_le _, Int.le_refl _, by show (0 : Int) ≤ _; omega, h.o1, by have := h.o2; show d.op ≤ _; omega⟩
theorem DsOk.boot {k : Nat} {d : Ds} (h : DsOk k d) : DsOk (k + 1) d.boot := ⟨h.s1, h.s2, Nat.zero_le _, Int.le_refl _, by show (0 : Int) ≤ _; omega, h.o1, by have := h.o2; show d.op ≤ _; omega⟩
theorem overS_len (S : List ByteArray) (i : Int) (s : ByteArray) : (overS S i s).length = S.length := by unfold overS; split; rw [List.length_set]; rfl
theorem DsOk.over {k : Nat} {d : Ds} (h : DsOk k d) (i : Int) (s : ByteArray) : DsOk (k + 1) (d.over i s) := by
  have hl := overS_len d.S i s
  exact ⟨by show 16 ≤ (overS _ _ _).length; rw [hl]; exact h.s1, by show (overS _ _ _).length ≤ _; rw [hl]; exact h.s2, by have := h.c; show d.C.length ≤ _; omega, h.a1, h.a2, h.o1, by have := h.o2; show d.op ≤ _; omega⟩
theorem DsOk.red {k : Nat} {d : Ds} (h : DsOk k d) (i : Int) : DsOk (k + 1) (d.red i) := by
  unfold Ds.red
  split
  · exact ⟨h.s1, h.s2, by have := h.c; show d.C.length ≤ _; omega, h.a1, h.a2, by have := h.o1; show 0 ≤ d.op + 1; omega, by have := h.o2; show d.op + 1 ≤ _; omega⟩
  · exact ⟨h.s1, h.s2, by have := h.c; omega, h.a1, h.a2, h.o1, by have := h.o2; omega⟩
theorem DsOk.up {k : Nat} {d : Ds} (h : DsOk k d) : DsOk (k + 1) d := ⟨h.s1, h.s2, by have := h.c; omega, h.a1, h.a2, h.o1, by have := h.o2; omega⟩
/-- a number, and the disk then -/
def PI (n : Nat) (w0 : World) (D : Nat) (d : Ds) (z : Int) (w : World) (e : Ending) (w' : World) : Prop := e = .returned (.int .i64 z) ∧ DW n w0 D d w' ∧ Kd D w w'
section
variable {n : Nat} {w0 : World} {D : Nat} {d : Ds} {w : World} {k : Nat}
theorem pwrite (h : DW n w0 D d w) (o : DsOk k d) (hk : k ≤ 1000) (i : Int) (s : ByteArray) : Calls Try.prog 20 #[.pointer (some ⟨D, 0, none⟩), .int .i64 i, .string s] w (PI n w0 D (d.wrt i s) (d.wrE i s) w) := by
  obtain ⟨SS, CC, ar, go, op⟩ := d
  have hd : DK D SS CC go op ar w := h.dk
  have o1 : 0 ≤ op := o.o1
  have o2 : op ≤ (k : Int) := o.o2
  have hc : CC.length ≤ 4096 + k := o.c
  unfold Ds.wrt Ds.wrE
  dsimp only
  cases go with
  | true => exact (dwrite_down D SS CC op ar i s w hd).mono fun _ _ ⟨h1, h2, h3⟩ => ⟨h1, h.kd h3 h2, h3⟩
  | false =>
    rw [if_neg Bool.false_ne_true, if_neg Bool.false_ne_true]
    by_cases hq : dckE SS.length i s = 0
    · rw [if_neg (fun h => h hq), if_neg (fun h => h hq)]
      exact (dwrite_up D SS CC op ar i s w hd hq ⟨by omega, by omega⟩ ⟨o.a1, o.a2⟩ (by omega)).mono fun _ _ ⟨h1, h2, h3⟩ => ⟨h1, h.kd h3 h2, h3⟩
    · rw [if_pos hq, if_pos hq]
      exact (dwrite_no D SS CC op ar i s w hd hq).mono fun _ _ ⟨h1, h2, h3⟩ => ⟨h1, h.kd h3 h2, h3⟩
theorem pflush (h : DW n w0 D d w) (o : DsOk k d) (hk : k ≤ 1000) : Calls Try.prog 19 #[.pointer (some ⟨D, 0, none⟩)] w (PI n w0 D d.fls d.flE w) := by
  obtain ⟨SS, CC, ar, go, op⟩ := d
  have hd : DK D SS CC go op ar w := h.dk
  have o1 : 0 ≤ op := o.o1
  have o2 : op ≤ (k : Int) := o.o2
  unfold Ds.fls Ds.flE
  dsimp only
  cases go with
  | true => exact (dflush_down D SS CC op ar w hd).mono fun _ _ ⟨h1, h2, h3⟩ => ⟨h1, h.kd h3 h2, h3⟩
  | false =>
    rw [if_neg Bool.false_ne_true, if_neg Bool.false_ne_true]
    have e : flsS ar SS CC = stpS ar SS CC := by unfold flsS stpS; rw [setP_all]
    refine (dflush_up D SS CC op ar w hd ⟨by omega, by omega⟩ ⟨o.a1, o.a2⟩).mono fun _ w' ⟨h1, h2, h3⟩ => ⟨h1, h.kd h3 ?_, h3⟩
    show DK D (flsS ar SS CC) (stpC ar CC) (stpD ar) (stpO op ar) (stpF ar) w'
    rw [e]; exact h2
theorem parm (h : DW n w0 D d w) (z : Int) : Calls Try.prog 25 #[.pointer (some ⟨D, 0, none⟩), .int .i64 z] w (PI n w0 D (d.arm z) (armE d.go z) w) := by
  refine (darm_any D d.S d.C d.go d.op d.ar z w h.dk).mono fun _ _ ⟨h1, h2, h3⟩ => ⟨h1, h.kd h3 ?_, h3⟩
  unfold armF at h2
  unfold Ds.arm
  split
  · next q => rw [if_pos q] at h2; exact h2
  · next q => rw [if_neg q] at h2; exact h2
theorem pcrash (h : DW n w0 D d w) (o : DsOk k d) (hk : k ≤ 1000) (A : Option Addr) (m c : Nat) (ks : List Int) (hr : RdX inC 1 w A m ks) (hw : ∀ x ∈ ks, (Lit.int .i64 x).wf = true) (hm : m ≤ maxLen) : Calls Try.prog 22 #[.pointer (some ⟨D, 0, none⟩), .slice A m c] w (PI n w0 D (d.crash ks) 0 w) :=
  (dcrash_any D d.S d.C d.go d.op d.ar A m c ks w h.dk hr hw hm (by have := o.c; omega)).mono fun _ _ ⟨h1, h2, h3⟩ => ⟨h1, h.kd h3 h2, h3⟩
theorem pboot (h : DW n w0 D d w) : Calls Try.prog 18 #[.pointer (some ⟨D, 0, none⟩)] w (PI n w0 D d.boot 0 w) :=
  (dboot_any D d.S d.C d.go d.op d.ar w h.dk).mono fun _ _ ⟨h1, h2, h3⟩ => ⟨h1, h.kd h3 h2, h3⟩
theorem pover (h : DW n w0 D d w) (i : Int) (s : ByteArray) : Calls Try.prog 26 #[.pointer (some ⟨D, 0, none⟩), .int .i64 i, .string s] w (PI n w0 D (d.over i s) (dckE d.S.length i s) w) :=
  (dover_any D d.S d.C d.go d.op d.ar i s w h.dk).mono fun _ _ ⟨h1, h2, h3⟩ => ⟨h1, h.kd h3 h2, h3⟩
/-- a text and a number, and the disk then -/
def PSI (n : Nat) (w0 : World) (D : Nat) (d : Ds) (s : ByteArray) (z : Int) (w : World) (e : Ending) (w' : World) : Prop := e = .returned (.tuple #[.string s, .int .i64 z]) ∧ DW n w0 D d w' ∧ Kd D w w'
theorem pread (h : DW n w0 D d w) (o : DsOk k d) (hk : k ≤ 1000) (i : Int) : Calls Try.prog 24 #[.pointer (some ⟨D, 0, none⟩), .int .i64 i] w (PSI n w0 D (d.red i) (d.rdS i) (d.rdE i) w) := by
  obtain ⟨SS, CC, ar, go, op⟩ := d
  have hd : DK D SS CC go op ar w := h.dk
  have o1 : 0 ≤ op := o.o1
  have o2 : op ≤ (k : Int) := o.o2
  have hc : CC.length ≤ 4096 + k := o.c
  cases go with
  | true =>
    have e : Ds.rdE ⟨SS, CC, ar, true, op⟩ i = 7 := if_pos rfl
    unfold Ds.red Ds.rdS
    rw [e, if_neg (by decide), if_neg (by decide)]
    exact (dread_down D SS CC op ar i w hd).mono fun _ _ ⟨h1, h2⟩ => by subst h2; exact ⟨h1, h, Kd.refl _ _⟩
  | false =>
    by_cases hi : 0 ≤ i ∧ i < (SS.length : Int)
    · have e : Ds.rdE ⟨SS, CC, ar, false, op⟩ i = 0 := by unfold Ds.rdE; rw [if_neg Bool.false_ne_true, if_pos hi]
      unfold Ds.red Ds.rdS
      rw [e, if_pos rfl, if_pos rfl]
      exact (dread_up D SS CC op ar i w hd hi (by omega) ⟨by omega, by omega⟩).mono fun _ _ ⟨h1, h2, h3⟩ => ⟨h1, h.kd h3 h2, h3⟩
    · have e : Ds.rdE ⟨SS, CC, ar, false, op⟩ i = 8 := by unfold Ds.rdE; rw [if_neg Bool.false_ne_true, if_neg hi]
      unfold Ds.red Ds.rdS
      rw [e, if_neg (by decide), if_neg (by decide)]
      exact (dread_no D SS CC op ar i w hd hi).mono fun _ _ ⟨h1, h2⟩ => by subst h2; exact ⟨h1, h, Kd.refl _ _⟩
end
/-- the document's disk as a value: its rows -/
structure RV (P : Nat → Prop) (d : Ds) (A : Option Addr) (n : Nat) (A2 : Option Addr) (n2 : Nat) (w : World) : Prop where
  s : RdP P stC 1 w A n d.S
  c : RdP P wrC 2 w A2 n2 d.C
section
variable {P : Nat → Prop} {d : Ds} {A : Option Addr} {n c : Nat} {A2 : Option Addr} {n2 c2 : Nat} {w : World} {k : Nat}
theorem RV.ns (h : RV P d A n A2 n2 w) : d.S.length = n := h.s.1.1
theorem RV.nc (h : RV P d A n A2 n2 w) : d.C.length = n2 := h.c.1.1
theorem qwrite (h : RV P d A n A2 n2 w) (o : DsOk k d) (hk : k ≤ 1000) (hP : ∀ b, w.heap.size ≤ b → P b) (i : Int) (s : ByteArray) : Calls Try.prog 45 #[rdv A n c A2 n2 c2 d.ar d.go d.op, .int .i64 i, .string s] w (RetDI P (d.wrt i s) (d.wrE i s) w) := by
  obtain ⟨SS, CC, ar, go, op⟩ := d
  have o1 : 0 ≤ op := o.o1
  have o2 : op ≤ (k : Int) := o.o2
  have hs : SS.length = n := h.ns
  have hc : CC.length = n2 := h.nc
  have hs2 : SS.length ≤ 4096 := o.s2
  have hc2 : CC.length ≤ 4096 + k := o.c
  unfold Ds.wrt Ds.wrE
  dsimp only
  cases go with
  | true => exact rwrite_gone P SS CC ar op A n c A2 n2 c2 i s w h.s h.c
  | false =>
    rw [if_neg Bool.false_ne_true, if_neg Bool.false_ne_true]
    by_cases hi : 0 ≤ i ∧ i < (SS.length : Int)
    · by_cases hz : s.size = 128
      · have e : dckE SS.length i s = 0 := by unfold dckE; rw [if_pos hi, if_pos hz]
        rw [e, if_neg (fun h => h rfl), if_neg (fun h => h rfl)]
        exact rwrite_up P SS CC ar op A n c A2 n2 c2 i s w h.s h.c hi hz ⟨o.a1, o.a2⟩ ⟨by omega, by omega⟩ (by omega) (by omega) hP
      · have e : dckE SS.length i s = 2 := by unfold dckE; rw [if_pos hi, if_neg hz]
        rw [e, if_pos (by decide), if_pos (by decide)]
        exact rwrite_len P SS CC ar op A n c A2 n2 c2 i s w h.s h.c hi hz
    · have e : dckE SS.length i s = 8 := by unfold dckE; rw [if_neg hi]
      rw [e, if_pos (by decide), if_pos (by decide)]
      exact rwrite_out P SS CC ar op A n c A2 n2 c2 i s w h.s h.c hi
theorem qflush (h : RV P d A n A2 n2 w) (o : DsOk k d) (hk : k ≤ 1000) (hP : ∀ b, w.heap.size ≤ b → P b) (hok : ∀ x ∈ d.C, 0 ≤ x.1 ∧ x.1 < (d.S.length : Int) ∧ x.2.size = 128) : Calls Try.prog 47 #[rdv A n c A2 n2 c2 d.ar d.go d.op] w (RetDI P d.fls d.flE w) := by
  obtain ⟨SS, CC, ar, go, op⟩ := d
  have o1 : 0 ≤ op := o.o1
  have o2 : op ≤ (k : Int) := o.o2
  have hs : SS.length = n := h.ns
  have hc : CC.length = n2 := h.nc
  have hs2 : SS.length ≤ 4096 := o.s2
  have hc2 : CC.length ≤ 4096 + k := o.c
  unfold Ds.fls Ds.flE
  dsimp only
  cases go with
  | true => exact rflush_gone P SS CC ar op A n c A2 n2 c2 w h.s h.c
  | false =>
    rw [if_neg Bool.false_ne_true, if_neg Bool.false_ne_true]
    exact rflush_up P SS CC ar op A n c A2 n2 c2 w h.s h.c hok ⟨o.a1, o.a2⟩ ⟨by omega, by omega⟩ (by omega) (by omega) hP
theorem qarm (h : RV P d A n A2 n2 w) (z : Int) : Calls Try.prog 48 #[rdv A n c A2 n2 c2 d.ar d.go d.op, .int .i64 z] w (RetDI P (d.arm z) (armE d.go z) w) := by
  obtain ⟨SS, CC, ar, go, op⟩ := d
  unfold Ds.arm
  dsimp only
  cases go with
  | true =>
    have e : armE true z = 7 := rfl
    rw [e, if_neg (by decide)]
    exact rarm_gone P SS CC ar op A n c A2 n2 c2 z w h.s h.c
  | false =>
    by_cases hz : z < 0
    · have e : armE false z = 2 := by unfold armE; rw [if_neg Bool.false_ne_true, if_pos hz]
      rw [e, if_neg (by decide)]
      exact rarm_no P SS CC ar op A n c A2 n2 c2 z w h.s h.c hz
    · have e : armE false z = 0 := by unfold armE; rw [if_neg Bool.false_ne_true, if_neg hz]
      rw [e, if_pos rfl]
      exact rarm_yes P SS CC ar op A n c A2 n2 c2 z w h.s h.c hz
theorem qcrash (h : RV P d A n A2 n2 w) (o : DsOk k d) (hk : k ≤ 1000) (hP : ∀ b, w.heap.size ≤ b → P b) (hok : ∀ x ∈ d.C, 0 ≤ x.1 ∧ x.1 < (d.S.length : Int) ∧ x.2.size = 128) (A3 : Option Addr) (m c3 : Nat) (ks : List Int) (hr : RdX inC 1 w A3 m ks) (hm : m ≤ maxLen) : Calls Try.prog 49 #[rdv A n c A2 n2 c2 d.ar d.go d.op, .slice A3 m c3] w (RetD P (d.crash ks) w) := by
  have hs := h.ns
  have hc := h.nc
  have hs2 := o.s2
  have hc2 := o.c
  exact rcrash_any P d.S d.C d.ar d.go d.op A n c A2 n2 c2 A3 m c3 ks w h.s h.c hok hr hm (by omega) (by omega) hP
theorem qboot (h : RV P d A n A2 n2 w) (o : DsOk k d) (hk : k ≤ 1000) (hP : ∀ b, w.heap.size ≤ b → P b) (hok : ∀ x ∈ d.C, 0 ≤ x.1 ∧ x.1 < (d.S.length : Int) ∧ x.2.size = 128) : Calls Try.prog 50 #[rdv A n c A2 n2 c2 d.ar d.go d.op] w (RetD P d.boot w) := by
  have hs := h.ns
  have hc := h.nc
  have hs2 := o.s2
  have hc2 := o.c
  have q := rboot_any P d.S d.C d.ar d.go d.op A n c A2 n2 c2 w h.s h.c hok (by omega) (by omega) hP
  rw [setP_none] at q
  exact q
theorem qover (h : RV P d A n A2 n2 w) (o : DsOk k d) (hk : k ≤ 1000) (hP : ∀ b, w.heap.size ≤ b → P b) (i : Int) (s : ByteArray) : Calls Try.prog 51 #[rdv A n c A2 n2 c2 d.ar d.go d.op, .int .i64 i, .string s] w (RetDI P (d.over i s) (dckE d.S.length i s) w) := by
  have hs := h.ns
  have hc := h.nc
  have hs2 := o.s2
  have hc2 := o.c
  unfold Ds.over overS
  by_cases hi : 0 ≤ i ∧ i < (d.S.length : Int)
  · by_cases hz : s.size = 128
    · have e : dckE d.S.length i s = 0 := by unfold dckE; rw [if_pos hi, if_pos hz]
      rw [e, if_pos rfl]
      exact rover_yes P d.S d.C d.ar d.go d.op A n c A2 n2 c2 i s w h.s h.c hi hz (by omega) (by omega) hP
    · have e : dckE d.S.length i s = 2 := by unfold dckE; rw [if_pos hi, if_neg hz]
      rw [e, if_neg (by decide)]
      exact rover_len P d.S d.C d.ar d.go d.op A n c A2 n2 c2 i s w h.s h.c hi hz
  · have e : dckE d.S.length i s = 8 := by unfold dckE; rw [if_neg hi]
    rw [e, if_neg (by decide)]
    exact rover_out P d.S d.C d.ar d.go d.op A n c A2 n2 c2 i s w h.s h.c hi
theorem qread (h : RV P d A n A2 n2 w) (o : DsOk k d) (hk : k ≤ 1000) (i : Int) : Calls Try.prog 46 #[rdv A n c A2 n2 c2 d.ar d.go d.op, .int .i64 i] w (RetDSI P (d.red i) (d.rdS i) (d.rdE i) w) := by
  obtain ⟨SS, CC, ar, go, op⟩ := d
  have o1 : 0 ≤ op := o.o1
  have o2 : op ≤ (k : Int) := o.o2
  have hc : CC.length = n2 := h.nc
  have hc2 : CC.length ≤ 4096 + k := o.c
  cases go with
  | true =>
    have e : Ds.rdE ⟨SS, CC, ar, true, op⟩ i = 7 := if_pos rfl
    unfold Ds.red Ds.rdS
    rw [e, if_neg (by decide), if_neg (by decide)]
    exact rread_gone P SS CC ar op A n c A2 n2 c2 i w h.s h.c
  | false =>
    by_cases hi : 0 ≤ i ∧ i < (SS.length : Int)
    · have e : Ds.rdE ⟨SS, CC, ar, false, op⟩ i = 0 := by unfold Ds.rdE; rw [if_neg Bool.false_ne_true, if_pos hi]
      unfold Ds.red Ds.rdS
      rw [e, if_pos rfl, if_pos rfl]
      exact rread_up P SS CC ar op A n c A2 n2 c2 i w h.s h.c hi (by omega) ⟨by omega, by omega⟩
    · have e : Ds.rdE ⟨SS, CC, ar, false, op⟩ i = 8 := by unfold Ds.rdE; rw [if_neg Bool.false_ne_true, if_neg hi]
      unfold Ds.red Ds.rdS
      rw [e, if_neg (by decide), if_neg (by decide)]
      exact rread_out P SS CC ar op A n c A2 n2 c2 i w h.s h.c hi
end
end Go.Proofs.Ytiagbadnmkeokaa

namespace Go.Proofs.Ytiagbadnmkeokaa
open Go.RowKit Vi

theorem InD.kk {D g : Nat} {w w' : World} (k : KK [g] w w') (hD : D < w.heap.size) (hg : D ≠ g) {b : Nat} (q : InD D w' b) : InD D w b := by
  have hb := k.block D hD (by simpa using hg)
  have hc : ∀ i, w'.cell? ⟨D, i, none⟩ = w.cell? ⟨D, i, none⟩ := fun i => World.cell?_of_block hb
  rcases q with q | ⟨o, n, c, q⟩ | ⟨o, n, c, q⟩
  · exact .inl q
  · exact .inr (.inl ⟨o, n, c, by rw [← hc]; exact q⟩)
  · exact .inr (.inr ⟨o, n, c, by rw [← hc]; exact q⟩)
/-- another type's box -/
def Typ (T : TypeId) : Prop := T ≠ 9 ∧ T ≠ 91 ∧ T ≠ 56
theorem DK.kk {D g : Nat} {SS : List ByteArray} {CC : List Wr} {dn : Bool} {ops fu : Int} {w w' : World} {cs : Array Value} {T : TypeId} {fr : Nat × Nat} (h : DK D SS CC dn ops fu w) (k : KK [g] w w') (hg : w.heap[g]? = some (.cells cs T fr)) (hT : Typ T) : DK D SS CC dn ops fu w' := by
  obtain ⟨⟨sa, sn, sc, ca, cn, cc, h1, h2, h3⟩, h4⟩ := h
  have hne : D ∉ [g] := fun e => by
    obtain rfl : D = g := by simpa using e
    rw [hg] at h1
    cases h1
    exact hT.2.2 rfl
  exact ⟨⟨sa, sn, sc, ca, cn, cc, k.blk h1 hne, h2.kkD k hg (fun e => hT.1 e.symm), h3.kkD k hg (fun e => hT.2.1 e.symm)⟩, h4⟩
theorem DK.ne {D g : Nat} {SS : List ByteArray} {CC : List Wr} {dn : Bool} {ops fu : Int} {w : World} {cs : Array Value} {T : TypeId} {fr : Nat × Nat} (h : DK D SS CC dn ops fu w) (hg : w.heap[g]? = some (.cells cs T fr)) (hT : Typ T) : D ≠ g := by
  obtain ⟨⟨sa, sn, sc, ca, cn, cc, h1, h2, h3⟩, h4⟩ := h
  intro e
  subst e
  rw [hg] at h1
  cases h1
  exact hT.2.2 rfl
theorem DW.kk {n : Nat} {w0 : World} {D g : Nat} {d : Ds} {w w' : World} {cs : Array Value} {T : TypeId} {fr : Nat × Nat} (h : DW n w0 D d w) (k : KK [g] w w') (hg : w.heap[g]? = some (.cells cs T fr)) (hT : Typ T) (hn : n ≤ g) : DW n w0 D d w' :=
  ⟨h.dk.kk k hg hT, fun b q => h.far b (q.kk k h.lt (h.dk.ne hg hT)), k.below h.bel (fun b hb => by obtain rfl : b = g := (by simpa using hb); exact hn) h.sz, Nat.le_trans h.sz k.size⟩
theorem Kd.kk {D g : Nat} {w1 w w' : World} {SS : List ByteArray} {CC : List Wr} {dn : Bool} {ops fu : Int} {cs : Array Value} {T : TypeId} {fr : Nat × Nat} (h : Kd D w1 w) (hd : DK D SS CC dn ops fu w) (k : KK [g] w w') (hg : w.heap[g]? = some (.cells cs T fr)) (hT : Typ T) (hn : w1.heap.size ≤ g) : Kd D w1 w' :=
  ⟨k.os.trans h.os, k.tape.trans h.tape, k.output.trans h.output, Nat.le_trans h.size k.size, fun b hb q => (k.block b (Nat.lt_of_lt_of_le hb h.size) (fun e => by obtain rfl : b = g := (by simpa using e); omega)).trans (h.block b hb q), fun b hb q => h.ind b hb (q.kk k hd.lt (hd.ne hg hT))⟩
/-- a row of texts, or of writes, isn't in a box without texts -/
theorem RdX.kkS {α : Type} {f : α → List Value} {s : Nat} {w w' : World} {A : Option Addr} {n : Nat} {l : List α} {g : Nat} {cs : Array Value} {T : TypeId} (h : RdX f s w A n l) (hf : ∀ x, ∃ (p : Nat) (t : ByteArray), (f x)[p]? = some (Value.string t)) (k : KK [g] w w') (hg : w.heap[g]? = some (.cells cs T (0, 0))) (hc : ∀ i : Nat, ∀ t, cs[i]? ≠ some (Value.string t)) : RdX f s w' A n l := by
  obtain ⟨h1, h2⟩ := h
  refine ⟨h1, fun hn => ?_⟩
  obtain ⟨b, off, e, hb, hcell⟩ := h2 hn
  have hne : b ≠ g := fun e2 => by
    subst e2
    obtain ⟨x, hx⟩ : ∃ x, l[0]? = some x := ⟨_, List.getElem?_eq_getElem (by omega : 0 < l.length)⟩
    obtain ⟨p, t, hp⟩ := hf x
    have q := hcell 0 x p _ hx hp
    rw [cell_of_row _ _ _ _ _ _ hg] at q
    exact hc _ t q
  exact ⟨b, off, e, Nat.lt_of_lt_of_le hb k.size, fun i x j u hx hu => (World.cell?_of_block (k.block b hb (by simpa using hne))).trans (hcell i x j u hx hu)⟩
theorem stC_txt : ∀ x, ∃ (p : Nat) (t : ByteArray), (stC x)[p]? = some (Value.string t) := fun x => ⟨0, x, rfl⟩
theorem wrC_txt : ∀ x, ∃ (p : Nat) (t : ByteArray), (wrC x)[p]? = some (Value.string t) := fun x => ⟨1, x.2, rfl⟩
theorem nt2 (A : Option Addr) (n c : Nat) (A2 : Option Addr) (n2 c2 : Nat) (ar : Int) (go : Bool) (op : Int) : ∀ i : Nat, ∀ t, (#[Value.slice A n c, .slice A2 n2 c2, .int .i64 ar, .bool go, .int .i64 op] : Array Value)[i]? ≠ some (Value.string t) := by
  intro i t
  match i with
  | 0 => simp
  | 1 => simp
  | 2 => simp
  | 3 => simp
  | 4 => simp
  | k + 5 => simp
theorem RdA.kkS {α : Type} {D : Nat} {f : α → List Value} {s : Nat} {w w' : World} {A : Option Addr} {n : Nat} {l : List α} {g : Nat} {cs : Array Value} {T : TypeId} (h : RdA D f s w A n l) (hf : ∀ x, ∃ (p : Nat) (t : ByteArray), (f x)[p]? = some (Value.string t)) (k : KK [g] w w') (hg : w.heap[g]? = some (.cells cs T (0, 0))) (hc : ∀ i : Nat, ∀ t, cs[i]? ≠ some (Value.string t)) (hD : D < w.heap.size) (hDg : D ≠ g) : RdA D f s w' A n l :=
  ⟨h.1.kkS hf k hg hc, fun hn b o e q => h.2 hn b o e (q.kk k hD hDg)⟩
theorem RdP.rdA {α : Type} {D : Nat} {f : α → List Value} {s : Nat} {w w' : World} {A : Option Addr} {n : Nat} {l : List α} (h : RdP (fun b => ¬ InD D w b) f s w' A n l) (hb : Below w.heap.size w w') (hD : D < w.heap.size) : RdA D f s w' A n l :=
  ⟨h.1, fun hn b o e q => h.2 hn b o e (q.back hb hD)⟩
abbrev rdC (A : Option Addr) (n c : Nat) (A2 : Option Addr) (n2 c2 : Nat) (d : Ds) : Array Value := #[.slice A n c, .slice A2 n2 c2, .int .i64 d.ar, .bool d.go, .int .i64 d.op]
/-- the boxes of a step -/
structure Bz (n0 : Nat) (w0 w1 : World) (D ri : Nat) (dp dr : Ds) (A : Option Addr) (n c : Nat) (A2 : Option Addr) (n2 c2 : Nat) (a : Ac) (W : World) : Prop where
  dw : DW n0 w0 D dp W
  kd : Kd D w1 W
  rb : W.heap[ri]? = some (.cells (rdC A n c A2 n2 c2 dr) 35 (0, 0))
  ab : W.heap[ri + 1]? = some (.cells (acC a).toArray 39 (0, 0))
  qb : W.heap[ri + 2]? = some (.cells #[.slice none 0 0, .slice none 0 0, .int .i64 0, .bool false, .int .i64 0] 35 (0, 0))
  nr : ¬ InD D W ri
  na : ¬ InD D W (ri + 1)
  nq : ¬ InD D W (ri + 2)
  s : RdA D stC 1 W A n dr.S
  c : RdA D wrC 2 W A2 n2 dr.C
  sz : w1.heap.size ≤ ri
  n0 : n0 ≤ ri
section
variable {n0 : Nat} {w0 w1 : World} {D ri : Nat} {dp dr : Ds} {A : Option Addr} {n c : Nat} {A2 : Option Addr} {n2 c2 : Nat} {a : Ac} {W W' : World}
theorem Bz.prog {d' : Ds} (h : Bz n0 w0 w1 D ri dp dr A n c A2 n2 c2 a W) (k : Kd D W W') (hd : DW n0 w0 D d' W') : Bz n0 w0 w1 D ri d' dr A n c A2 n2 c2 a W' :=
  ⟨hd, h.kd.trans k, (k.block _ (lt_of_block h.rb) h.nr).trans h.rb, (k.block _ (lt_of_block h.ab) h.na).trans h.ab, (k.block _ (lt_of_block h.qb) h.nq).trans h.qb,
    fun q => h.nr (k.ind _ (lt_of_block h.rb) q), fun q => h.na (k.ind _ (lt_of_block h.ab) q), fun q => h.nq (k.ind _ (lt_of_block h.qb) q), h.s.kd k, h.c.kd k, h.sz, h.n0⟩
theorem Bz.kept (h : Bz n0 w0 w1 D ri dp dr A n c A2 n2 c2 a W) (hb : Below W.heap.size W W') : Bz n0 w0 w1 D ri dp dr A n c A2 n2 c2 a W' := h.prog (Kd.of_below hb h.dw.lt) (h.dw.below hb)
theorem Bz.drew (h : Bz n0 w0 w1 D ri dp dr A n c A2 n2 c2 a W) : Bz n0 w0 w1 D ri dp dr A n c A2 n2 c2 a W.drew := h.kept (Below.refl _ _).drew
theorem Bz.rv (h : Bz n0 w0 w1 D ri dp dr A n c A2 n2 c2 a W) : RV (fun b => ¬ InD D W b) dr A n A2 n2 W := ⟨h.s, h.c⟩
theorem Bz.nw (h : Bz n0 w0 w1 D ri dp dr A n c A2 n2 c2 a W) : ∀ b, W.heap.size ≤ b → ¬ InD D W b := fun b hb q => by have := h.dw.dk.new q; omega
/-- the document's disk is stored -/
theorem Bz.stored {d' : Ds} {B : Option Addr} {m mc : Nat} {B2 : Option Addr} {m2 k2 : Nat} (h : Bz n0 w0 w1 D ri dp dr A n c A2 n2 c2 a W) (h1 : RdA D stC 1 W B m d'.S) (h2 : RdA D wrC 2 W B2 m2 d'.C) :
    Bz n0 w0 w1 D ri dp d' B m mc B2 m2 k2 a (((((W.setCell ⟨ri, 0, none⟩ (.slice B m mc)).setCell ⟨ri, 1, none⟩ (.slice B2 m2 k2)).setCell ⟨ri, 2, none⟩ (.int .i64 d'.ar)).setCell ⟨ri, 3, none⟩ (.bool d'.go)).setCell ⟨ri, 4, none⟩ (.int .i64 d'.op)) := by
  have k := (((((KK.refl [ri] W).set (b := ri) (by simp) 0 (.slice B m mc)).set (b := ri) (by simp) 1 (.slice B2 m2 k2)).set (b := ri) (by simp) 2 (.int .i64 d'.ar)).set (b := ri) (by simp) 3 (.bool d'.go)).set (b := ri) (by simp) 4 (.int .i64 d'.op)
  have q := heap_setCell_at (i := 4) (u := .int .i64 d'.op) (heap_setCell_at (i := 3) (u := .bool d'.go) (heap_setCell_at (i := 2) (u := .int .i64 d'.ar) (heap_setCell_at (i := 1) (u := .slice B2 m2 k2) (heap_setCell_at (i := 0) (u := .slice B m mc) h.rb))))
  have hT : Typ 35 := ⟨by decide, by decide, by decide⟩
  have hne := h.dw.dk.ne h.rb hT
  exact ⟨h.dw.kk k h.rb hT h.n0, h.kd.kk h.dw.dk k h.rb hT h.sz, q, k.blk h.ab (by simp), k.blk h.qb (by simp), fun e => h.nr (e.kk k h.dw.lt hne), fun e => h.na (e.kk k h.dw.lt hne), fun e => h.nq (e.kk k h.dw.lt hne), h1.kkS stC_txt k h.rb (nt2 _ _ _ _ _ _ _ _ _) h.dw.lt hne, h2.kkS wrC_txt k h.rb (nt2 _ _ _ _ _ _ _ _ _) h.dw.lt hne, h.sz, h.n0⟩
end
/-- what a step hands back -/
def DoesP (n0 : Nat) (w0 : World) (D : Nat) (d : Ds) (w : World) (e : Ending) (w' : World) : Prop := ∃ A n c A2 n2 c2, e = .returned (.tuple #[rdv A n c A2 n2 c2 d.ar d.go d.op, .bool true]) ∧ DW n0 w0 D d w' ∧ Kd D w w' ∧ RdA D stC 1 w' A n d.S ∧ RdA D wrC 2 w' A2 n2 d.C
theorem Bz.done {n0 : Nat} {w0 w1 : World} {D ri : Nat} {d : Ds} {A : Option Addr} {n c : Nat} {A2 : Option Addr} {n2 c2 : Nat} {a : Ac} {W : World} (h : Bz n0 w0 w1 D ri d d A n c A2 n2 c2 a W) (W' : World)
    (he : W' = (((((W.setCell ⟨ri + 2, 0, none⟩ (.slice A n c)).setCell ⟨ri + 2, 1, none⟩ (.slice A2 n2 c2)).setCell ⟨ri + 2, 2, none⟩ (.int .i64 d.ar)).setCell ⟨ri + 2, 3, none⟩ (.bool d.go)).setCell ⟨ri + 2, 4, none⟩ (.int .i64 d.op))) :
    DW n0 w0 D d W' ∧ Kd D w1 W' ∧ RdA D stC 1 W' A n d.S ∧ RdA D wrC 2 W' A2 n2 d.C ∧ W'.heap[ri + 2]? = some (.cells (rdC A n c A2 n2 c2 d) 35 (0, 0)) ∧ W'.heap[ri]? = some (.cells (rdC A n c A2 n2 c2 d) 35 (0, 0)) := by
  subst he
  have k := (((((KK.refl [ri + 2] W).set (b := ri + 2) (by simp) 0 (.slice A n c)).set (b := ri + 2) (by simp) 1 (.slice A2 n2 c2)).set (b := ri + 2) (by simp) 2 (.int .i64 d.ar)).set (b := ri + 2) (by simp) 3 (.bool d.go)).set (b := ri + 2) (by simp) 4 (.int .i64 d.op)
  have q := heap_setCell_at (i := 4) (u := .int .i64 d.op) (heap_setCell_at (i := 3) (u := .bool d.go) (heap_setCell_at (i := 2) (u := .int .i64 d.ar) (heap_setCell_at (i := 1) (u := .slice A2 n2 c2) (heap_setCell_at (i := 0) (u := .slice A n c) h.qb))))
  have hT : Typ 35 := ⟨by decide, by decide, by decide⟩
  have hne := h.dw.dk.ne h.qb hT
  exact ⟨h.dw.kk k h.qb hT (Nat.le_trans h.n0 (by omega)), h.kd.kk h.dw.dk k h.qb hT (Nat.le_trans h.sz (by omega)), h.s.kkS stC_txt k h.qb (nt2 _ _ _ _ _ _ _ _ _) h.dw.lt hne, h.c.kkS wrC_txt k h.qb (nt2 _ _ _ _ _ _ _ _ _) h.dw.lt hne, q, k.blk h.rb (by simp)⟩
/-- the boxes at the start -/
theorem bz_start {n0 : Nat} {w0 w : World} {D : Nat} {d : Ds} {A : Option Addr} {n c : Nat} {A2 : Option Addr} {n2 c2 : Nat} {a : Ac} (h : DW n0 w0 D d w) (h1 : RdA D stC 1 w A n d.S) (h2 : RdA D wrC 2 w A2 n2 d.C) :
    Bz n0 w0 w D w.heap.size d d A n c A2 n2 c2 a (((w.alloc (.cells (rdC A n c A2 n2 c2 d) 35 (0, 0))).alloc (.cells (acC a).toArray 39 (0, 0))).alloc (.cells #[.slice none 0 0, .slice none 0 0, .int .i64 0, .bool false, .int .i64 0] 35 (0, 0))) := by
  have hb := (((Below.refl w.heap.size w).alloc (Nat.le_refl _) (.cells (rdC A n c A2 n2 c2 d) 35 (0, 0))).alloc (by simp) (.cells (acC a).toArray 39 (0, 0))).alloc (by simp <;> omega) (.cells #[.slice none 0 0, .slice none 0 0, .int .i64 0, .bool false, .int .i64 0] 35 (0, 0))
  have hn : ∀ b, w.heap.size ≤ b → ¬ InD D w b := fun b hb q => by have := h.dk.new q; omega
  have kd := Kd.of_below hb h.lt
  refine ⟨h.below hb, kd, blk_alloc (blk_alloc (blk_new _ _) _) _, blk_alloc (by have q := blk_new (w.alloc (.cells (rdC A n c A2 n2 c2 d) 35 (0, 0))) (.cells (acC a).toArray 39 (0, 0)); simpa using q) _,
    by have q := blk_new ((w.alloc (.cells (rdC A n c A2 n2 c2 d) 35 (0, 0))).alloc (.cells (acC a).toArray 39 (0, 0))) (.cells #[.slice none 0 0, .slice none 0 0, .int .i64 0, .bool false, .int .i64 0] 35 (0, 0)); simpa using q,
    fun q => hn _ (Nat.le_refl _) (q.back hb h.lt), fun q => hn _ (Nat.le_succ _) (q.back hb h.lt), fun q => hn _ (by omega) (q.back hb h.lt), h1.kd kd, h2.kd kd, Nat.le_refl _, h.sz⟩
/-- what loads need -/
structure SB (k ri : Nat) (rc ac : Array Value) (L : Array Bool) (W : World) : Prop where
  a : W.heap[ri + 1]? = some (.cells ac 39 (0, 0))
  r : L.getD k false = false → W.heap[ri]? = some (.cells rc 35 (0, 0))
theorem SB.set {k ri : Nat} {rc ac : Array Value} {j : Nat} (h1 : j ≠ k) (L : Array Bool) (w : World) : SB k ri rc ac (L.setIfInBounds j true) w ↔ SB k ri rc ac L w :=
  ⟨fun h => ⟨h.a, fun q => h.r (by rw [getF_set L j k h1]; exact q)⟩, fun h => ⟨h.a, fun q => h.r (by rw [getF_set L j k h1] at q; exact q)⟩⟩
theorem SB.rOf {md : Region.Mode} {ops : Array Oper} {k ri : Nat} {rc ac : Array Value} {j : Nat} {w : World} (h : SI md ops (SB k ri rc ac) j w) (f : Nat) (hw : waits md ops f k j = true) : w.heap[ri]? = some (.cells rc 35 (0, 0)) := by
  obtain ⟨L, hs, hi, hS⟩ := h
  exact hS.r (shut_of hs hi f k hw)
theorem SB.aOf {md : Region.Mode} {ops : Array Oper} {k ri : Nat} {rc ac : Array Value} {j : Nat} {w : World} (h : SI md ops (SB k ri rc ac) j w) : w.heap[ri + 1]? = some (.cells ac 39 (0, 0)) := by
  obtain ⟨L, _, _, hS⟩ := h
  exact hS.a
end Go.Proofs.Ytiagbadnmkeokaa
