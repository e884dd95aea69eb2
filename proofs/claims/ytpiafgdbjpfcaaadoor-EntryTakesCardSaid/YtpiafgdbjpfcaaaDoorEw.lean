/- The contracts of entry.Is and of the example of layer 10 over this translation. Conditions: texts of at most a thousand bytes; the table of crc. -/
import Derived.Test.YtpiafgdbjpfcaaaDoorEu
namespace Go.Proofs.YtpiafgdbjpfcaaaDoor
open Go.RowKit Vi Cm

set_option maxHeartbeats 4000000 in
set_option maxRecDepth 100000 in
theorem eis_hit (a b k : Int) (x o n : ByteArray) (t u : Int) (w : World) (hT : Tab w) (h : rok a b k x o n t u = true) :
    Calls Tryd.prog 23 #[.string (recS a b k x o n t u), .int .i64 a, .int .i64 b] w fun e w' => e = .returned (.tuple #[.agg (recV a b k x o n t u), .bool true]) ∧ Below w.heap.size w w' := by
  have HT := Lib.hid hT
  have HTK := Lib.hid (fun (W : World) (g : Tab W) => etake_yes a b k x o n t u W g h)
  unfold recV at HTK ⊢
  generalize recS a b k x o n t u = S at HTK ⊢
  clear h hT
  have HB1 := Lib.hid (Below.refl w.heap.size w)
  go_enter Tryd.func23, Tryd.ntmps23
  go_wp2_with fail
  have HF2 := Lib.hid (blk_new w (.cells #[.int .i64 0, .int .i64 0, .int .i64 0, .string ⟨#[]⟩, .string ⟨#[]⟩, .string ⟨#[]⟩, .int .i64 0, .int .i64 0] 37 (0, 0)))
  have HB3 := Lib.hid (HB1.out.alloc HB1.out.size (.cells #[.int .i64 0, .int .i64 0, .int .i64 0, .string ⟨#[]⟩, .string ⟨#[]⟩, .string ⟨#[]⟩, .int .i64 0, .int .i64 0] 37 (0, 0)))
  clear HB1
  refine (HTK.out (w.alloc (.cells #[.int .i64 0, .int .i64 0, .int .i64 0, .string ⟨#[]⟩, .string ⟨#[]⟩, .string ⟨#[]⟩, .int .i64 0, .int .i64 0] 37 (0, 0))) (HT.out.later HB3.out)).mono ?_
  rintro e w1 ⟨rfl, hb1⟩
  have HF4 := Lib.hid (blk_below HF2.out hb1)
  have HB5 := Lib.hid (HB3.out.trans (hb1.mono HB3.out.size))
  clear hb1 HB3 HF2
  have hk6 : w.heap.size < w1.heap.size := lt_of_block HF4.out
  have HF7 := Lib.hid (blk_alloc HF4.out (.cells #[.int .i64 a, .int .i64 b, .int .i64 k, .string x, .string o, .string n, .int .i64 t, .int .i64 u] 37 (0, 0)))
  have HF8 := Lib.hid (blk_new w1 (.cells #[.int .i64 a, .int .i64 b, .int .i64 k, .string x, .string o, .string n, .int .i64 t, .int .i64 u] 37 (0, 0)))
  have HB9 := Lib.hid (HB5.out.alloc HB5.out.size (.cells #[.int .i64 a, .int .i64 b, .int .i64 k, .string x, .string o, .string n, .int .i64 t, .int .i64 u] 37 (0, 0)))
  clear HB5
  have hc10 : (w1.alloc (.cells #[.int .i64 a, .int .i64 b, .int .i64 k, .string x, .string o, .string n, .int .i64 t, .int .i64 u] 37 (0, 0))).cell? ⟨w1.heap.size, 0, none⟩ = some (.int .i64 a) := by rw [cell_of_row _ _ _ _ _ _ HF8.out]; rfl
  have hc11 : (w1.alloc (.cells #[.int .i64 a, .int .i64 b, .int .i64 k, .string x, .string o, .string n, .int .i64 t, .int .i64 u] 37 (0, 0))).cell? ⟨w1.heap.size, 1, none⟩ = some (.int .i64 b) := by rw [cell_of_row _ _ _ _ _ _ HF8.out]; rfl
  go_wp2_with (first
    | refine wpList_store_rowY rfl 37 (.tmp 6) (.tmp 30) rfl (w.heap.size) #[.int .i64 a, .int .i64 b, .int .i64 k, .string x, .string o, .string n, .int .i64 t, .int .i64 u] rfl rfl 37 _ HF7.out (info_rec _ _ _ _ _ _ _ _) rfl (one_rec _ _ _ _ _ _ _ _) w.heap.size w HB9.out (by omega) ?_
    | refine wpList_load_row rfl 37 (.tmp 8) rfl (w1.heap.size) rfl 37 #[.int .i64 a, .int .i64 b, .int .i64 k, .string x, .string o, .string n, .int .i64 t, .int .i64 u] (0, 0) _ HF8.out Tryd.underlying37 rfl (info_rec _ _ _ _ _ _ _ _) ?_)
  intro W2 hbk hoth hbel _
  clear hc10 hc11
  have HF12 := Lib.hid hbk.out
  have HF13 := Lib.hid (blk_oth HF8.out hoth.out (by omega))
  have HB14 := Lib.hid hbel.out
  clear hbk hoth hbel HB9  HF7 HF8
  go_wp2_with fail
  refine bodyPost_ret (results_ctY rfl _ _ (w.heap.size) #[.int .i64 a, .int .i64 b, .int .i64 k, .string x, .string o, .string n, .int .i64 t, .int .i64 u] rfl (run_loadVar_row _ (w.heap.size) 37 37 _ (0, 0) _ HF12.out Tryd.underlying37 rfl (info_rec _ _ _ _ _ _ _ _))) rfl ?_
  exact ⟨rfl, HB14.out⟩
set_option maxHeartbeats 4000000 in
set_option maxRecDepth 100000 in
theorem eis_miss (a b k : Int) (x o n : ByteArray) (t u ep sq : Int) (w : World) (hT : Tab w) (h : rok a b k x o n t u = true) (hm : ¬ (a = ep ∧ b = sq)) :
    Calls Tryd.prog 23 #[.string (recS a b k x o n t u), .int .i64 ep, .int .i64 sq] w fun e w' => e = .returned (.tuple #[.agg recZ, .bool false]) ∧ Below w.heap.size w w' := by
  have HT := Lib.hid hT
  have HTK := Lib.hid (fun (W : World) (g : Tab W) => etake_yes a b k x o n t u W g h)
  unfold recV at HTK
  unfold recZ
  generalize recS a b k x o n t u = S at HTK ⊢
  clear h hT
  by_cases h1 : a = ep
  · have h2 : (b == sq) = false := by rw [beq_eq_false_iff_ne]; exact fun e => hm ⟨h1, e⟩
    have h3 : (b != sq) = true := by rw [bne, h2]; rfl
    subst h1
    clear hm
    have HB1 := Lib.hid (Below.refl w.heap.size w)
    go_enter Tryd.func23, Tryd.ntmps23
    go_wp2_with fail
    have HF2 := Lib.hid (blk_new w (.cells #[.int .i64 0, .int .i64 0, .int .i64 0, .string ⟨#[]⟩, .string ⟨#[]⟩, .string ⟨#[]⟩, .int .i64 0, .int .i64 0] 37 (0, 0)))
    have HB3 := Lib.hid (HB1.out.alloc HB1.out.size (.cells #[.int .i64 0, .int .i64 0, .int .i64 0, .string ⟨#[]⟩, .string ⟨#[]⟩, .string ⟨#[]⟩, .int .i64 0, .int .i64 0] 37 (0, 0)))
    clear HB1
    refine (HTK.out (w.alloc (.cells #[.int .i64 0, .int .i64 0, .int .i64 0, .string ⟨#[]⟩, .string ⟨#[]⟩, .string ⟨#[]⟩, .int .i64 0, .int .i64 0] 37 (0, 0))) (HT.out.later HB3.out)).mono ?_
    rintro e w1 ⟨rfl, hb1⟩
    have HF4 := Lib.hid (blk_below HF2.out hb1)
    have HB5 := Lib.hid (HB3.out.trans (hb1.mono HB3.out.size))
    clear hb1 HB3 HF2
    have hk6 : w.heap.size < w1.heap.size := lt_of_block HF4.out
    have HF7 := Lib.hid (blk_alloc HF4.out (.cells #[.int .i64 a, .int .i64 b, .int .i64 k, .string x, .string o, .string n, .int .i64 t, .int .i64 u] 37 (0, 0)))
    have HF8 := Lib.hid (blk_new w1 (.cells #[.int .i64 a, .int .i64 b, .int .i64 k, .string x, .string o, .string n, .int .i64 t, .int .i64 u] 37 (0, 0)))
    have HB9 := Lib.hid (HB5.out.alloc HB5.out.size (.cells #[.int .i64 a, .int .i64 b, .int .i64 k, .string x, .string o, .string n, .int .i64 t, .int .i64 u] 37 (0, 0)))
    clear HB5
    have hc10 : (w1.alloc (.cells #[.int .i64 a, .int .i64 b, .int .i64 k, .string x, .string o, .string n, .int .i64 t, .int .i64 u] 37 (0, 0))).cell? ⟨w1.heap.size, 0, none⟩ = some (.int .i64 a) := by rw [cell_of_row _ _ _ _ _ _ HF8.out]; rfl
    have hc11 : (w1.alloc (.cells #[.int .i64 a, .int .i64 b, .int .i64 k, .string x, .string o, .string n, .int .i64 t, .int .i64 u] 37 (0, 0))).cell? ⟨w1.heap.size, 1, none⟩ = some (.int .i64 b) := by rw [cell_of_row _ _ _ _ _ _ HF8.out]; rfl
    go_wp2_with (first
      | refine wpList_store_rowY rfl 37 (.tmp 6) (.tmp 29) rfl (w.heap.size) #[.int .i64 0, .int .i64 0, .int .i64 0, .string ⟨#[]⟩, .string ⟨#[]⟩, .string ⟨#[]⟩, .int .i64 0, .int .i64 0] rfl rfl 37 _ HF7.out (info_rec _ _ _ _ _ _ _ _) rfl (one_rec _ _ _ _ _ _ _ _) w.heap.size w HB9.out (by omega) ?_)
    intro W2 hbk hoth hbel _
    clear hc10 hc11
    have HF12 := Lib.hid hbk.out
    have HF13 := Lib.hid (blk_oth HF8.out hoth.out (by omega))
    have HB14 := Lib.hid hbel.out
    clear hbk hoth hbel HB9  HF7 HF8
    go_wp2_with fail
    refine bodyPost_ret (results_ctY rfl _ _ (w.heap.size) #[.int .i64 0, .int .i64 0, .int .i64 0, .string ⟨#[]⟩, .string ⟨#[]⟩, .string ⟨#[]⟩, .int .i64 0, .int .i64 0] rfl (run_loadVar_row _ (w.heap.size) 37 37 _ (0, 0) _ HF12.out Tryd.underlying37 rfl (info_rec _ _ _ _ _ _ _ _))) rfl ?_
    exact ⟨rfl, HB14.out⟩
  · have h2 : (a == ep) = false := by rw [beq_eq_false_iff_ne]; exact h1
    have h3 : (a != ep) = true := by rw [bne, h2]; rfl
    clear hm h1
    have HB1 := Lib.hid (Below.refl w.heap.size w)
    go_enter Tryd.func23, Tryd.ntmps23
    go_wp2_with fail
    have HF2 := Lib.hid (blk_new w (.cells #[.int .i64 0, .int .i64 0, .int .i64 0, .string ⟨#[]⟩, .string ⟨#[]⟩, .string ⟨#[]⟩, .int .i64 0, .int .i64 0] 37 (0, 0)))
    have HB3 := Lib.hid (HB1.out.alloc HB1.out.size (.cells #[.int .i64 0, .int .i64 0, .int .i64 0, .string ⟨#[]⟩, .string ⟨#[]⟩, .string ⟨#[]⟩, .int .i64 0, .int .i64 0] 37 (0, 0)))
    clear HB1
    refine (HTK.out (w.alloc (.cells #[.int .i64 0, .int .i64 0, .int .i64 0, .string ⟨#[]⟩, .string ⟨#[]⟩, .string ⟨#[]⟩, .int .i64 0, .int .i64 0] 37 (0, 0))) (HT.out.later HB3.out)).mono ?_
    rintro e w1 ⟨rfl, hb1⟩
    have HF4 := Lib.hid (blk_below HF2.out hb1)
    have HB5 := Lib.hid (HB3.out.trans (hb1.mono HB3.out.size))
    clear hb1 HB3 HF2
    have hk6 : w.heap.size < w1.heap.size := lt_of_block HF4.out
    have HF7 := Lib.hid (blk_alloc HF4.out (.cells #[.int .i64 a, .int .i64 b, .int .i64 k, .string x, .string o, .string n, .int .i64 t, .int .i64 u] 37 (0, 0)))
    have HF8 := Lib.hid (blk_new w1 (.cells #[.int .i64 a, .int .i64 b, .int .i64 k, .string x, .string o, .string n, .int .i64 t, .int .i64 u] 37 (0, 0)))
    have HB9 := Lib.hid (HB5.out.alloc HB5.out.size (.cells #[.int .i64 a, .int .i64 b, .int .i64 k, .string x, .string o, .string n, .int .i64 t, .int .i64 u] 37 (0, 0)))
    clear HB5
    have hc10 : (w1.alloc (.cells #[.int .i64 a, .int .i64 b, .int .i64 k, .string x, .string o, .string n, .int .i64 t, .int .i64 u] 37 (0, 0))).cell? ⟨w1.heap.size, 0, none⟩ = some (.int .i64 a) := by rw [cell_of_row _ _ _ _ _ _ HF8.out]; rfl
    have hc11 : (w1.alloc (.cells #[.int .i64 a, .int .i64 b, .int .i64 k, .string x, .string o, .string n, .int .i64 t, .int .i64 u] 37 (0, 0))).cell? ⟨w1.heap.size, 1, none⟩ = some (.int .i64 b) := by rw [cell_of_row _ _ _ _ _ _ HF8.out]; rfl
    go_wp2_with (first
      | refine wpList_store_rowY rfl 37 (.tmp 6) (.tmp 29) rfl (w.heap.size) #[.int .i64 0, .int .i64 0, .int .i64 0, .string ⟨#[]⟩, .string ⟨#[]⟩, .string ⟨#[]⟩, .int .i64 0, .int .i64 0] rfl rfl 37 _ HF7.out (info_rec _ _ _ _ _ _ _ _) rfl (one_rec _ _ _ _ _ _ _ _) w.heap.size w HB9.out (by omega) ?_)
    intro W2 hbk hoth hbel _
    clear hc10 hc11
    have HF12 := Lib.hid hbk.out
    have HF13 := Lib.hid (blk_oth HF8.out hoth.out (by omega))
    have HB14 := Lib.hid hbel.out
    clear hbk hoth hbel HB9  HF7 HF8
    go_wp2_with fail
    refine bodyPost_ret (results_ctY rfl _ _ (w.heap.size) #[.int .i64 0, .int .i64 0, .int .i64 0, .string ⟨#[]⟩, .string ⟨#[]⟩, .string ⟨#[]⟩, .int .i64 0, .int .i64 0] rfl (run_loadVar_row _ (w.heap.size) 37 37 _ (0, 0) _ HF12.out Tryd.underlying37 rfl (info_rec _ _ _ _ _ _ _ _))) rfl ?_
    exact ⟨rfl, HB14.out⟩
set_option maxHeartbeats 4000000 in
set_option maxRecDepth 100000 in
theorem eis_no (S : ByteArray) (ep sq : Int) (w : World) (hT : Tab w) (hS : S.size ≤ 1000) (hno : ¬ IsRec S) :
    Calls Tryd.prog 23 #[.string S, .int .i64 ep, .int .i64 sq] w fun e w' => e = .returned (.tuple #[.agg recZ, .bool false]) ∧ Below w.heap.size w w' := by
  have HT := Lib.hid hT
  have HTK := Lib.hid (fun (W : World) (g : Tab W) => etake_no S W g hS hno)
  unfold recZ at HTK ⊢
  clear hno hT
  have HB1 := Lib.hid (Below.refl w.heap.size w)
  go_enter Tryd.func23, Tryd.ntmps23
  go_wp2_with fail
  have HF2 := Lib.hid (blk_new w (.cells #[.int .i64 0, .int .i64 0, .int .i64 0, .string ⟨#[]⟩, .string ⟨#[]⟩, .string ⟨#[]⟩, .int .i64 0, .int .i64 0] 37 (0, 0)))
  have HB3 := Lib.hid (HB1.out.alloc HB1.out.size (.cells #[.int .i64 0, .int .i64 0, .int .i64 0, .string ⟨#[]⟩, .string ⟨#[]⟩, .string ⟨#[]⟩, .int .i64 0, .int .i64 0] 37 (0, 0)))
  clear HB1
  refine (HTK.out (w.alloc (.cells #[.int .i64 0, .int .i64 0, .int .i64 0, .string ⟨#[]⟩, .string ⟨#[]⟩, .string ⟨#[]⟩, .int .i64 0, .int .i64 0] 37 (0, 0))) (HT.out.later HB3.out)).mono ?_
  rintro e w1 ⟨rfl, hb1⟩
  have HF4 := Lib.hid (blk_below HF2.out hb1)
  have HB5 := Lib.hid (HB3.out.trans (hb1.mono HB3.out.size))
  clear hb1 HB3 HF2
  have hk6 : w.heap.size < w1.heap.size := lt_of_block HF4.out
  have HF7 := Lib.hid (blk_alloc HF4.out (.cells #[.int .i64 0, .int .i64 0, .int .i64 0, .string ⟨#[]⟩, .string ⟨#[]⟩, .string ⟨#[]⟩, .int .i64 0, .int .i64 0] 37 (0, 0)))
  have HF8 := Lib.hid (blk_new w1 (.cells #[.int .i64 0, .int .i64 0, .int .i64 0, .string ⟨#[]⟩, .string ⟨#[]⟩, .string ⟨#[]⟩, .int .i64 0, .int .i64 0] 37 (0, 0)))
  have HB9 := Lib.hid (HB5.out.alloc HB5.out.size (.cells #[.int .i64 0, .int .i64 0, .int .i64 0, .string ⟨#[]⟩, .string ⟨#[]⟩, .string ⟨#[]⟩, .int .i64 0, .int .i64 0] 37 (0, 0)))
  clear HB5
  have hc10 : (w1.alloc (.cells #[.int .i64 0, .int .i64 0, .int .i64 0, .string ⟨#[]⟩, .string ⟨#[]⟩, .string ⟨#[]⟩, .int .i64 0, .int .i64 0] 37 (0, 0))).cell? ⟨w1.heap.size, 0, none⟩ = some (.int .i64 0) := by rw [cell_of_row _ _ _ _ _ _ HF8.out]; rfl
  have hc11 : (w1.alloc (.cells #[.int .i64 0, .int .i64 0, .int .i64 0, .string ⟨#[]⟩, .string ⟨#[]⟩, .string ⟨#[]⟩, .int .i64 0, .int .i64 0] 37 (0, 0))).cell? ⟨w1.heap.size, 1, none⟩ = some (.int .i64 0) := by rw [cell_of_row _ _ _ _ _ _ HF8.out]; rfl
  go_wp2_with (first
    | refine wpList_store_rowY rfl 37 (.tmp 6) (.tmp 29) rfl (w.heap.size) #[.int .i64 0, .int .i64 0, .int .i64 0, .string ⟨#[]⟩, .string ⟨#[]⟩, .string ⟨#[]⟩, .int .i64 0, .int .i64 0] rfl rfl 37 _ HF7.out (info_rec _ _ _ _ _ _ _ _) rfl (one_rec _ _ _ _ _ _ _ _) w.heap.size w HB9.out (by omega) ?_)
  intro W2 hbk hoth hbel _
  clear hc10 hc11
  have HF12 := Lib.hid hbk.out
  have HF13 := Lib.hid (blk_oth HF8.out hoth.out (by omega))
  have HB14 := Lib.hid hbel.out
  clear hbk hoth hbel HB9  HF7 HF8
  go_wp2_with fail
  refine bodyPost_ret (results_ctY rfl _ _ (w.heap.size) #[.int .i64 0, .int .i64 0, .int .i64 0, .string ⟨#[]⟩, .string ⟨#[]⟩, .string ⟨#[]⟩, .int .i64 0, .int .i64 0] rfl (run_loadVar_row _ (w.heap.size) 37 37 _ (0, 0) _ HF12.out Tryd.underlying37 rfl (info_rec _ _ _ _ _ _ _ _))) rfl ?_
  exact ⟨rfl, HB14.out⟩
set_option maxHeartbeats 1000000 in
set_option maxRecDepth 100000 in
theorem few10_any (a b k : Int) (x o n : ByteArray) (t u : Int) (c : Bool) (w : World) (hc : decide (x.size ≤ 200 ∧ o.size ≤ 200 ∧ n.size ≤ 200) = c) :
    Calls Tryd.prog 15 #[.agg #[.int .i64 a, .int .i64 b, .int .i64 k, .string x, .string o, .string n, .int .i64 t, .int .i64 u]] w fun e w' => e = .returned (.bool c) ∧ Below w.heap.size w w' := by
  by_cases h1 : x.size ≤ 200
  · have d1 : decide ((x.size : Int) ≤ 200) = true := decide_eq_true (by omega)
    have D1 : decide (x.size ≤ 200) = true := decide_eq_true h1
    by_cases h2 : o.size ≤ 200
    · have d2 : decide ((o.size : Int) ≤ 200) = true := decide_eq_true (by omega)
      have D2 : decide (o.size ≤ 200) = true := decide_eq_true h2
      by_cases h3 : n.size ≤ 200
      · have d3 : decide ((n.size : Int) ≤ 200) = true := decide_eq_true (by omega)
        have D3 : decide (n.size ≤ 200) = true := decide_eq_true h3
        rw [decide_eq_true (by omega)] at hc
        subst hc
        have HB1 := Lib.hid (Below.refl w.heap.size w)
        go_enter Tryd.func15, Tryd.ntmps15
        have HF2 := Lib.hid (blk_new w (.cells #[.int .i64 a, .int .i64 b, .int .i64 k, .string x, .string o, .string n, .int .i64 t, .int .i64 u] 37 (0, 0)))
        have HB3 := Lib.hid (HB1.out.alloc HB1.out.size (.cells #[.int .i64 a, .int .i64 b, .int .i64 k, .string x, .string o, .string n, .int .i64 t, .int .i64 u] 37 (0, 0)))
        clear HB1
        have hc4 : (w.alloc (.cells #[.int .i64 a, .int .i64 b, .int .i64 k, .string x, .string o, .string n, .int .i64 t, .int .i64 u] 37 (0, 0))).cell? ⟨w.heap.size, 3, none⟩ = some (.string x) := by rw [cell_of_row _ _ _ _ _ _ HF2.out]; rfl
        have hc5 : (w.alloc (.cells #[.int .i64 a, .int .i64 b, .int .i64 k, .string x, .string o, .string n, .int .i64 t, .int .i64 u] 37 (0, 0))).cell? ⟨w.heap.size, 4, none⟩ = some (.string o) := by rw [cell_of_row _ _ _ _ _ _ HF2.out]; rfl
        have hc6 : (w.alloc (.cells #[.int .i64 a, .int .i64 b, .int .i64 k, .string x, .string o, .string n, .int .i64 t, .int .i64 u] 37 (0, 0))).cell? ⟨w.heap.size, 5, none⟩ = some (.string n) := by rw [cell_of_row _ _ _ _ _ _ HF2.out]; rfl
        go_wp2_with fail
        go_ret
        exact ⟨rfl, HB3.out⟩
      · have d3 : decide ((n.size : Int) ≤ 200) = false := decide_eq_false (by omega)
        have D3 : decide (n.size ≤ 200) = false := decide_eq_false h3
        rw [decide_eq_false (by omega)] at hc
        subst hc
        have HB1 := Lib.hid (Below.refl w.heap.size w)
        go_enter Tryd.func15, Tryd.ntmps15
        have HF2 := Lib.hid (blk_new w (.cells #[.int .i64 a, .int .i64 b, .int .i64 k, .string x, .string o, .string n, .int .i64 t, .int .i64 u] 37 (0, 0)))
        have HB3 := Lib.hid (HB1.out.alloc HB1.out.size (.cells #[.int .i64 a, .int .i64 b, .int .i64 k, .string x, .string o, .string n, .int .i64 t, .int .i64 u] 37 (0, 0)))
        clear HB1
        have hc4 : (w.alloc (.cells #[.int .i64 a, .int .i64 b, .int .i64 k, .string x, .string o, .string n, .int .i64 t, .int .i64 u] 37 (0, 0))).cell? ⟨w.heap.size, 3, none⟩ = some (.string x) := by rw [cell_of_row _ _ _ _ _ _ HF2.out]; rfl
        have hc5 : (w.alloc (.cells #[.int .i64 a, .int .i64 b, .int .i64 k, .string x, .string o, .string n, .int .i64 t, .int .i64 u] 37 (0, 0))).cell? ⟨w.heap.size, 4, none⟩ = some (.string o) := by rw [cell_of_row _ _ _ _ _ _ HF2.out]; rfl
        have hc6 : (w.alloc (.cells #[.int .i64 a, .int .i64 b, .int .i64 k, .string x, .string o, .string n, .int .i64 t, .int .i64 u] 37 (0, 0))).cell? ⟨w.heap.size, 5, none⟩ = some (.string n) := by rw [cell_of_row _ _ _ _ _ _ HF2.out]; rfl
        go_wp2_with fail
        go_ret
        exact ⟨rfl, HB3.out⟩
    · have d2 : decide ((o.size : Int) ≤ 200) = false := decide_eq_false (by omega)
      have D2 : decide (o.size ≤ 200) = false := decide_eq_false h2
      rw [decide_eq_false (by omega)] at hc
      subst hc
      have HB1 := Lib.hid (Below.refl w.heap.size w)
      go_enter Tryd.func15, Tryd.ntmps15
      have HF2 := Lib.hid (blk_new w (.cells #[.int .i64 a, .int .i64 b, .int .i64 k, .string x, .string o, .string n, .int .i64 t, .int .i64 u] 37 (0, 0)))
      have HB3 := Lib.hid (HB1.out.alloc HB1.out.size (.cells #[.int .i64 a, .int .i64 b, .int .i64 k, .string x, .string o, .string n, .int .i64 t, .int .i64 u] 37 (0, 0)))
      clear HB1
      have hc4 : (w.alloc (.cells #[.int .i64 a, .int .i64 b, .int .i64 k, .string x, .string o, .string n, .int .i64 t, .int .i64 u] 37 (0, 0))).cell? ⟨w.heap.size, 3, none⟩ = some (.string x) := by rw [cell_of_row _ _ _ _ _ _ HF2.out]; rfl
      have hc5 : (w.alloc (.cells #[.int .i64 a, .int .i64 b, .int .i64 k, .string x, .string o, .string n, .int .i64 t, .int .i64 u] 37 (0, 0))).cell? ⟨w.heap.size, 4, none⟩ = some (.string o) := by rw [cell_of_row _ _ _ _ _ _ HF2.out]; rfl
      have hc6 : (w.alloc (.cells #[.int .i64 a, .int .i64 b, .int .i64 k, .string x, .string o, .string n, .int .i64 t, .int .i64 u] 37 (0, 0))).cell? ⟨w.heap.size, 5, none⟩ = some (.string n) := by rw [cell_of_row _ _ _ _ _ _ HF2.out]; rfl
      go_wp2_with fail
      go_ret
      exact ⟨rfl, HB3.out⟩
  · have d1 : decide ((x.size : Int) ≤ 200) = false := decide_eq_false (by omega)
    have D1 : decide (x.size ≤ 200) = false := decide_eq_false h1
    rw [decide_eq_false (by omega)] at hc
    subst hc
    have HB1 := Lib.hid (Below.refl w.heap.size w)
    go_enter Tryd.func15, Tryd.ntmps15
    have HF2 := Lib.hid (blk_new w (.cells #[.int .i64 a, .int .i64 b, .int .i64 k, .string x, .string o, .string n, .int .i64 t, .int .i64 u] 37 (0, 0)))
    have HB3 := Lib.hid (HB1.out.alloc HB1.out.size (.cells #[.int .i64 a, .int .i64 b, .int .i64 k, .string x, .string o, .string n, .int .i64 t, .int .i64 u] 37 (0, 0)))
    clear HB1
    have hc4 : (w.alloc (.cells #[.int .i64 a, .int .i64 b, .int .i64 k, .string x, .string o, .string n, .int .i64 t, .int .i64 u] 37 (0, 0))).cell? ⟨w.heap.size, 3, none⟩ = some (.string x) := by rw [cell_of_row _ _ _ _ _ _ HF2.out]; rfl
    have hc5 : (w.alloc (.cells #[.int .i64 a, .int .i64 b, .int .i64 k, .string x, .string o, .string n, .int .i64 t, .int .i64 u] 37 (0, 0))).cell? ⟨w.heap.size, 4, none⟩ = some (.string o) := by rw [cell_of_row _ _ _ _ _ _ HF2.out]; rfl
    have hc6 : (w.alloc (.cells #[.int .i64 a, .int .i64 b, .int .i64 k, .string x, .string o, .string n, .int .i64 t, .int .i64 u] 37 (0, 0))).cell? ⟨w.heap.size, 5, none⟩ = some (.string n) := by rw [cell_of_row _ _ _ _ _ _ HF2.out]; rfl
    go_wp2_with fail
    go_ret
    exact ⟨rfl, HB3.out⟩
theorem rok_aw : rok 1 0 1 ⟨#[97]⟩ ⟨#[]⟩ (noughts 32) 0 2 = true := by decide +kernel
set_option maxHeartbeats 4000000 in
set_option maxRecDepth 100000 in
theorem awake10 (w : World) (hT : Tab w) : Calls Tryd.prog 16 #[] w fun e w' => e = .returned (.bool true) ∧ Below w.heap.size w w' := by
  have HT := Lib.hid hT
  have HN := Lib.hid (fun W : World => noughts32_any W)
  have HP := Lib.hid (fun (W : World) (g : Tab W) => erput_yes 1 0 1 ⟨#[97]⟩ ⟨#[]⟩ (noughts 32) 0 2 W g rok_aw)
  have HK := Lib.hid (fun (W : World) (g : Tab W) => etake_yes 1 0 1 ⟨#[97]⟩ ⟨#[]⟩ (noughts 32) 0 2 W g rok_aw)
  have hz := rec_size rok_aw
  unfold recV at HK
  generalize recS 1 0 1 ⟨#[97]⟩ ⟨#[]⟩ (noughts 32) 0 2 = S at HP HK hz
  generalize noughts 32 = N at HN HP HK
  have hs : ((S.size : Int) == 128) = true := by rw [hz]; rfl
  have hs2 : (S.size == 128) = true := by rw [hz]; rfl
  clear hz hT
  have HB1 := Lib.hid (Below.refl w.heap.size w)
  go_enter Tryd.func16, Tryd.ntmps16
  go_wp2_with fail
  refine (HN.out w).mono ?_
  rintro e w1 ⟨rfl, hb1⟩
  have HB2 := Lib.hid (HB1.out.trans (hb1.mono HB1.out.size))
  clear hb1 HB1 
  have HF3 := Lib.hid (blk_new w1 (.cells #[.int .i64 1, .int .i64 0, .int .i64 1, .string ⟨#[97]⟩, .string ⟨#[]⟩, .string N, .int .i64 0, .int .i64 2] 37 (0, 0)))
  have HB4 := Lib.hid (HB2.out.alloc HB2.out.size (.cells #[.int .i64 1, .int .i64 0, .int .i64 1, .string ⟨#[97]⟩, .string ⟨#[]⟩, .string N, .int .i64 0, .int .i64 2] 37 (0, 0)))
  clear HB2
  have hc5 : (w1.alloc (.cells #[.int .i64 1, .int .i64 0, .int .i64 1, .string ⟨#[97]⟩, .string ⟨#[]⟩, .string N, .int .i64 0, .int .i64 2] 37 (0, 0))).cell? ⟨w1.heap.size, 0, none⟩ = some (.int .i64 1) := by rw [cell_of_row _ _ _ _ _ _ HF3.out]; rfl
  have hc6 : (w1.alloc (.cells #[.int .i64 1, .int .i64 0, .int .i64 1, .string ⟨#[97]⟩, .string ⟨#[]⟩, .string N, .int .i64 0, .int .i64 2] 37 (0, 0))).cell? ⟨w1.heap.size, 1, none⟩ = some (.int .i64 0) := by rw [cell_of_row _ _ _ _ _ _ HF3.out]; rfl
  have hc7 : (w1.alloc (.cells #[.int .i64 1, .int .i64 0, .int .i64 1, .string ⟨#[97]⟩, .string ⟨#[]⟩, .string N, .int .i64 0, .int .i64 2] 37 (0, 0))).cell? ⟨w1.heap.size, 2, none⟩ = some (.int .i64 1) := by rw [cell_of_row _ _ _ _ _ _ HF3.out]; rfl
  have hc8 : (w1.alloc (.cells #[.int .i64 1, .int .i64 0, .int .i64 1, .string ⟨#[97]⟩, .string ⟨#[]⟩, .string N, .int .i64 0, .int .i64 2] 37 (0, 0))).cell? ⟨w1.heap.size, 3, none⟩ = some (.string ⟨#[97]⟩) := by rw [cell_of_row _ _ _ _ _ _ HF3.out]; rfl
  have hc9 : (w1.alloc (.cells #[.int .i64 1, .int .i64 0, .int .i64 1, .string ⟨#[97]⟩, .string ⟨#[]⟩, .string N, .int .i64 0, .int .i64 2] 37 (0, 0))).cell? ⟨w1.heap.size, 4, none⟩ = some (.string ⟨#[]⟩) := by rw [cell_of_row _ _ _ _ _ _ HF3.out]; rfl
  have hc10 : (w1.alloc (.cells #[.int .i64 1, .int .i64 0, .int .i64 1, .string ⟨#[97]⟩, .string ⟨#[]⟩, .string N, .int .i64 0, .int .i64 2] 37 (0, 0))).cell? ⟨w1.heap.size, 5, none⟩ = some (.string N) := by rw [cell_of_row _ _ _ _ _ _ HF3.out]; rfl
  have hc11 : (w1.alloc (.cells #[.int .i64 1, .int .i64 0, .int .i64 1, .string ⟨#[97]⟩, .string ⟨#[]⟩, .string N, .int .i64 0, .int .i64 2] 37 (0, 0))).cell? ⟨w1.heap.size, 6, none⟩ = some (.int .i64 0) := by rw [cell_of_row _ _ _ _ _ _ HF3.out]; rfl
  have hc12 : (w1.alloc (.cells #[.int .i64 1, .int .i64 0, .int .i64 1, .string ⟨#[97]⟩, .string ⟨#[]⟩, .string N, .int .i64 0, .int .i64 2] 37 (0, 0))).cell? ⟨w1.heap.size, 7, none⟩ = some (.int .i64 2) := by rw [cell_of_row _ _ _ _ _ _ HF3.out]; rfl
  go_wp2_with fail
  refine (HP.out (w1.alloc (.cells #[.int .i64 1, .int .i64 0, .int .i64 1, .string ⟨#[97]⟩, .string ⟨#[]⟩, .string N, .int .i64 0, .int .i64 2] 37 (0, 0))) (HT.out.later HB4.out)).mono ?_
  rintro e w2 ⟨rfl, hb2⟩
  clear hc5 hc6 hc7 hc8 hc9 hc10 hc11 hc12
  have HF13 := Lib.hid (blk_below HF3.out hb2)
  have HB14 := Lib.hid (HB4.out.trans (hb2.mono HB4.out.size))
  clear hb2 HB4 HF3
  go_wp2_with fail
  refine (HK.out w2 (HT.out.later HB14.out)).mono ?_
  rintro e w3 ⟨rfl, hb3⟩
  have HF15 := Lib.hid (blk_below HF13.out hb3)
  have HB16 := Lib.hid (HB14.out.trans (hb3.mono HB14.out.size))
  clear hb3 HB14 HF13
  have hk17 : w1.heap.size < w3.heap.size := lt_of_block HF15.out
  have HF18 := Lib.hid (blk_alloc HF15.out (.cells #[.int .i64 1, .int .i64 0, .int .i64 1, .string ⟨#[97]⟩, .string ⟨#[]⟩, .string N, .int .i64 0, .int .i64 2] 37 (0, 0)))
  have HF19 := Lib.hid (blk_new w3 (.cells #[.int .i64 1, .int .i64 0, .int .i64 1, .string ⟨#[97]⟩, .string ⟨#[]⟩, .string N, .int .i64 0, .int .i64 2] 37 (0, 0)))
  have HB20 := Lib.hid (HB16.out.alloc HB16.out.size (.cells #[.int .i64 1, .int .i64 0, .int .i64 1, .string ⟨#[97]⟩, .string ⟨#[]⟩, .string N, .int .i64 0, .int .i64 2] 37 (0, 0)))
  clear HB16
  have hc21 : (w3.alloc (.cells #[.int .i64 1, .int .i64 0, .int .i64 1, .string ⟨#[97]⟩, .string ⟨#[]⟩, .string N, .int .i64 0, .int .i64 2] 37 (0, 0))).cell? ⟨w1.heap.size, 0, none⟩ = some (.int .i64 1) := by rw [cell_of_row _ _ _ _ _ _ HF18.out]; rfl
  have hc22 : w3.cell? ⟨w1.heap.size, 0, none⟩ = some (.int .i64 1) := by rw [cell_of_row _ _ _ _ _ _ HF15.out]; rfl
  have hc23 : (w3.alloc (.cells #[.int .i64 1, .int .i64 0, .int .i64 1, .string ⟨#[97]⟩, .string ⟨#[]⟩, .string N, .int .i64 0, .int .i64 2] 37 (0, 0))).cell? ⟨w1.heap.size, 1, none⟩ = some (.int .i64 0) := by rw [cell_of_row _ _ _ _ _ _ HF18.out]; rfl
  have hc24 : w3.cell? ⟨w1.heap.size, 1, none⟩ = some (.int .i64 0) := by rw [cell_of_row _ _ _ _ _ _ HF15.out]; rfl
  have hc25 : (w3.alloc (.cells #[.int .i64 1, .int .i64 0, .int .i64 1, .string ⟨#[97]⟩, .string ⟨#[]⟩, .string N, .int .i64 0, .int .i64 2] 37 (0, 0))).cell? ⟨w1.heap.size, 2, none⟩ = some (.int .i64 1) := by rw [cell_of_row _ _ _ _ _ _ HF18.out]; rfl
  have hc26 : w3.cell? ⟨w1.heap.size, 2, none⟩ = some (.int .i64 1) := by rw [cell_of_row _ _ _ _ _ _ HF15.out]; rfl
  have hc27 : (w3.alloc (.cells #[.int .i64 1, .int .i64 0, .int .i64 1, .string ⟨#[97]⟩, .string ⟨#[]⟩, .string N, .int .i64 0, .int .i64 2] 37 (0, 0))).cell? ⟨w1.heap.size, 3, none⟩ = some (.string ⟨#[97]⟩) := by rw [cell_of_row _ _ _ _ _ _ HF18.out]; rfl
  have hc28 : w3.cell? ⟨w1.heap.size, 3, none⟩ = some (.string ⟨#[97]⟩) := by rw [cell_of_row _ _ _ _ _ _ HF15.out]; rfl
  have hc29 : (w3.alloc (.cells #[.int .i64 1, .int .i64 0, .int .i64 1, .string ⟨#[97]⟩, .string ⟨#[]⟩, .string N, .int .i64 0, .int .i64 2] 37 (0, 0))).cell? ⟨w1.heap.size, 4, none⟩ = some (.string ⟨#[]⟩) := by rw [cell_of_row _ _ _ _ _ _ HF18.out]; rfl
  have hc30 : w3.cell? ⟨w1.heap.size, 4, none⟩ = some (.string ⟨#[]⟩) := by rw [cell_of_row _ _ _ _ _ _ HF15.out]; rfl
  have hc31 : (w3.alloc (.cells #[.int .i64 1, .int .i64 0, .int .i64 1, .string ⟨#[97]⟩, .string ⟨#[]⟩, .string N, .int .i64 0, .int .i64 2] 37 (0, 0))).cell? ⟨w1.heap.size, 5, none⟩ = some (.string N) := by rw [cell_of_row _ _ _ _ _ _ HF18.out]; rfl
  have hc32 : w3.cell? ⟨w1.heap.size, 5, none⟩ = some (.string N) := by rw [cell_of_row _ _ _ _ _ _ HF15.out]; rfl
  have hc33 : (w3.alloc (.cells #[.int .i64 1, .int .i64 0, .int .i64 1, .string ⟨#[97]⟩, .string ⟨#[]⟩, .string N, .int .i64 0, .int .i64 2] 37 (0, 0))).cell? ⟨w1.heap.size, 6, none⟩ = some (.int .i64 0) := by rw [cell_of_row _ _ _ _ _ _ HF18.out]; rfl
  have hc34 : w3.cell? ⟨w1.heap.size, 6, none⟩ = some (.int .i64 0) := by rw [cell_of_row _ _ _ _ _ _ HF15.out]; rfl
  have hc35 : (w3.alloc (.cells #[.int .i64 1, .int .i64 0, .int .i64 1, .string ⟨#[97]⟩, .string ⟨#[]⟩, .string N, .int .i64 0, .int .i64 2] 37 (0, 0))).cell? ⟨w1.heap.size, 7, none⟩ = some (.int .i64 2) := by rw [cell_of_row _ _ _ _ _ _ HF18.out]; rfl
  have hc36 : w3.cell? ⟨w1.heap.size, 7, none⟩ = some (.int .i64 2) := by rw [cell_of_row _ _ _ _ _ _ HF15.out]; rfl
  have hl37 : w1.heap.size < w3.heap.size := lt_of_block HF15.out
  have hl38 : ¬ w1.heap.size = w3.heap.size := by omega
  have hc39 : (w3.alloc (.cells #[.int .i64 1, .int .i64 0, .int .i64 1, .string ⟨#[97]⟩, .string ⟨#[]⟩, .string N, .int .i64 0, .int .i64 2] 37 (0, 0))).cell? ⟨w3.heap.size, 0, none⟩ = some (.int .i64 1) := by rw [cell_of_row _ _ _ _ _ _ HF19.out]; rfl
  have hc40 : (w3.alloc (.cells #[.int .i64 1, .int .i64 0, .int .i64 1, .string ⟨#[97]⟩, .string ⟨#[]⟩, .string N, .int .i64 0, .int .i64 2] 37 (0, 0))).cell? ⟨w3.heap.size, 1, none⟩ = some (.int .i64 0) := by rw [cell_of_row _ _ _ _ _ _ HF19.out]; rfl
  have hc41 : (w3.alloc (.cells #[.int .i64 1, .int .i64 0, .int .i64 1, .string ⟨#[97]⟩, .string ⟨#[]⟩, .string N, .int .i64 0, .int .i64 2] 37 (0, 0))).cell? ⟨w3.heap.size, 2, none⟩ = some (.int .i64 1) := by rw [cell_of_row _ _ _ _ _ _ HF19.out]; rfl
  have hc42 : (w3.alloc (.cells #[.int .i64 1, .int .i64 0, .int .i64 1, .string ⟨#[97]⟩, .string ⟨#[]⟩, .string N, .int .i64 0, .int .i64 2] 37 (0, 0))).cell? ⟨w3.heap.size, 3, none⟩ = some (.string ⟨#[97]⟩) := by rw [cell_of_row _ _ _ _ _ _ HF19.out]; rfl
  have hc43 : (w3.alloc (.cells #[.int .i64 1, .int .i64 0, .int .i64 1, .string ⟨#[97]⟩, .string ⟨#[]⟩, .string N, .int .i64 0, .int .i64 2] 37 (0, 0))).cell? ⟨w3.heap.size, 4, none⟩ = some (.string ⟨#[]⟩) := by rw [cell_of_row _ _ _ _ _ _ HF19.out]; rfl
  have hc44 : (w3.alloc (.cells #[.int .i64 1, .int .i64 0, .int .i64 1, .string ⟨#[97]⟩, .string ⟨#[]⟩, .string N, .int .i64 0, .int .i64 2] 37 (0, 0))).cell? ⟨w3.heap.size, 5, none⟩ = some (.string N) := by rw [cell_of_row _ _ _ _ _ _ HF19.out]; rfl
  have hc45 : (w3.alloc (.cells #[.int .i64 1, .int .i64 0, .int .i64 1, .string ⟨#[97]⟩, .string ⟨#[]⟩, .string N, .int .i64 0, .int .i64 2] 37 (0, 0))).cell? ⟨w3.heap.size, 6, none⟩ = some (.int .i64 0) := by rw [cell_of_row _ _ _ _ _ _ HF19.out]; rfl
  have hc46 : (w3.alloc (.cells #[.int .i64 1, .int .i64 0, .int .i64 1, .string ⟨#[97]⟩, .string ⟨#[]⟩, .string N, .int .i64 0, .int .i64 2] 37 (0, 0))).cell? ⟨w3.heap.size, 7, none⟩ = some (.int .i64 2) := by rw [cell_of_row _ _ _ _ _ _ HF19.out]; rfl
  go_wp2_with fail
  go_ret
  exact ⟨rfl, HB20.out⟩
end Go.Proofs.YtpiafgdbjpfcaaaDoor
