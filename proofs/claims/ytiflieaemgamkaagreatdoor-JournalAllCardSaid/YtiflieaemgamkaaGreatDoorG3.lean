/- Several texts of one family, merged for a claim. Conditions as in its parts. -/
import Derived.Test.YtiflieaemgamkaaGreatDoorG4
import Derived.Test.YtiflieaemgamkaaGreatDoorG1
import Derived.Test.YtiflieaemgamkaaGreatDoorG0
import Derived.Test.YtiflieaemgamkaaGreatDoorG2
namespace Go.Proofs.YtiflieaemgamkaaGreatDoor
open Go.RowKit Vi Cm

set_option maxHeartbeats 4000000 in
set_option maxRecDepth 100000 in
theorem eis_hit (a b k : Int) (x o n : ByteArray) (t u : Int) (w : World) (hT : Tab w) (h : rok a b k x o n t u = true) :
    Calls Tryz.prog 100 #[.string (recS a b k x o n t u), .int .i64 a, .int .i64 b] w fun e w' => e = .returned (.tuple #[.agg (recV a b k x o n t u), .bool true]) ∧ Below w.heap.size w w' := by
  have HT := Lib.hid hT
  have HTK := Lib.hid (fun (W : World) (g : Tab W) => etake_yes a b k x o n t u W g h)
  unfold recV at HTK ⊢
  generalize recS a b k x o n t u = S at HTK ⊢
  clear h hT
  have HB1 := Lib.hid (Below.refl w.heap.size w)
  go_enter Tryz.func100, Tryz.ntmps100
  go_wp2_with fail
  have HF2 := Lib.hid (blk_new w (.cells #[.int .i64 0, .int .i64 0, .int .i64 0, .string ⟨#[]⟩, .string ⟨#[]⟩, .string ⟨#[]⟩, .int .i64 0, .int .i64 0] 42 (0, 0)))
  have HB3 := Lib.hid (HB1.out.alloc HB1.out.size (.cells #[.int .i64 0, .int .i64 0, .int .i64 0, .string ⟨#[]⟩, .string ⟨#[]⟩, .string ⟨#[]⟩, .int .i64 0, .int .i64 0] 42 (0, 0)))
  clear HB1
  refine (HTK.out (w.alloc (.cells #[.int .i64 0, .int .i64 0, .int .i64 0, .string ⟨#[]⟩, .string ⟨#[]⟩, .string ⟨#[]⟩, .int .i64 0, .int .i64 0] 42 (0, 0))) (HT.out.later HB3.out)).mono ?_
  rintro e w1 ⟨rfl, hb1⟩
  have HF4 := Lib.hid (blk_below HF2.out hb1)
  have HB5 := Lib.hid (HB3.out.trans (hb1.mono HB3.out.size))
  clear hb1 HB3 HF2
  have hk6 : w.heap.size < w1.heap.size := lt_of_block HF4.out
  have HF7 := Lib.hid (blk_alloc HF4.out (.cells #[.int .i64 a, .int .i64 b, .int .i64 k, .string x, .string o, .string n, .int .i64 t, .int .i64 u] 42 (0, 0)))
  have HF8 := Lib.hid (blk_new w1 (.cells #[.int .i64 a, .int .i64 b, .int .i64 k, .string x, .string o, .string n, .int .i64 t, .int .i64 u] 42 (0, 0)))
  have HB9 := Lib.hid (HB5.out.alloc HB5.out.size (.cells #[.int .i64 a, .int .i64 b, .int .i64 k, .string x, .string o, .string n, .int .i64 t, .int .i64 u] 42 (0, 0)))
  clear HB5
  have hc10 : (w1.alloc (.cells #[.int .i64 a, .int .i64 b, .int .i64 k, .string x, .string o, .string n, .int .i64 t, .int .i64 u] 42 (0, 0))).cell? ⟨w1.heap.size, 0, none⟩ = some (.int .i64 a) := by rw [cell_of_row _ _ _ _ _ _ HF8.out]; rfl
  have hc11 : (w1.alloc (.cells #[.int .i64 a, .int .i64 b, .int .i64 k, .string x, .string o, .string n, .int .i64 t, .int .i64 u] 42 (0, 0))).cell? ⟨w1.heap.size, 1, none⟩ = some (.int .i64 b) := by rw [cell_of_row _ _ _ _ _ _ HF8.out]; rfl
  go_wp2_with (first
    | refine wpList_store_rowY rfl 42 (.tmp 6) (.tmp 30) rfl (w.heap.size) #[.int .i64 a, .int .i64 b, .int .i64 k, .string x, .string o, .string n, .int .i64 t, .int .i64 u] rfl rfl 42 _ HF7.out (info_rec _ _ _ _ _ _ _ _) rfl (one_rec _ _ _ _ _ _ _ _) w.heap.size w HB9.out (by omega) ?_
    | refine wpList_load_row rfl 42 (.tmp 8) rfl (w1.heap.size) rfl 42 #[.int .i64 a, .int .i64 b, .int .i64 k, .string x, .string o, .string n, .int .i64 t, .int .i64 u] (0, 0) _ HF8.out Tryz.underlying42 rfl (info_rec _ _ _ _ _ _ _ _) ?_)
  intro W2 hbk hoth hbel _
  clear hc10 hc11
  have HF12 := Lib.hid hbk.out
  have HF13 := Lib.hid (blk_oth HF8.out hoth.out (by omega))
  have HB14 := Lib.hid hbel.out
  clear hbk hoth hbel HB9  HF7 HF8
  go_wp2_with fail
  refine bodyPost_ret (results_ctY rfl _ _ (w.heap.size) #[.int .i64 a, .int .i64 b, .int .i64 k, .string x, .string o, .string n, .int .i64 t, .int .i64 u] rfl (run_loadVar_row _ (w.heap.size) 42 42 _ (0, 0) _ HF12.out Tryz.underlying42 rfl (info_rec _ _ _ _ _ _ _ _))) rfl ?_
  exact ⟨rfl, HB14.out⟩
set_option maxHeartbeats 4000000 in
set_option maxRecDepth 100000 in
theorem eis_miss (a b k : Int) (x o n : ByteArray) (t u ep sq : Int) (w : World) (hT : Tab w) (h : rok a b k x o n t u = true) (hm : ¬ (a = ep ∧ b = sq)) :
    Calls Tryz.prog 100 #[.string (recS a b k x o n t u), .int .i64 ep, .int .i64 sq] w fun e w' => e = .returned (.tuple #[.agg recZ, .bool false]) ∧ Below w.heap.size w w' := by
  have HT := Lib.hid hT
  have HTK := Lib.hid (fun (W : World) (g : Tab W) => etake_yes a b k x o n t u W g h)
  unfold recV at HTK
  unfold recZ
  generalize recS a b k x o n t u = S at HTK ⊢
  clear h hT
  by_cases h1 : a = ep
  · have h2 : (b == sq) = false := by rw [beq_eq_false_iff_ne]; exact fun e => hm ⟨h1, e⟩
    have h3 : (b != sq) = true := by rw [bne, h2]; rfl
    subst h1
    clear hm
    have HB1 := Lib.hid (Below.refl w.heap.size w)
    go_enter Tryz.func100, Tryz.ntmps100
    go_wp2_with fail
    have HF2 := Lib.hid (blk_new w (.cells #[.int .i64 0, .int .i64 0, .int .i64 0, .string ⟨#[]⟩, .string ⟨#[]⟩, .string ⟨#[]⟩, .int .i64 0, .int .i64 0] 42 (0, 0)))
    have HB3 := Lib.hid (HB1.out.alloc HB1.out.size (.cells #[.int .i64 0, .int .i64 0, .int .i64 0, .string ⟨#[]⟩, .string ⟨#[]⟩, .string ⟨#[]⟩, .int .i64 0, .int .i64 0] 42 (0, 0)))
    clear HB1
    refine (HTK.out (w.alloc (.cells #[.int .i64 0, .int .i64 0, .int .i64 0, .string ⟨#[]⟩, .string ⟨#[]⟩, .string ⟨#[]⟩, .int .i64 0, .int .i64 0] 42 (0, 0))) (HT.out.later HB3.out)).mono ?_
    rintro e w1 ⟨rfl, hb1⟩
    have HF4 := Lib.hid (blk_below HF2.out hb1)
    have HB5 := Lib.hid (HB3.out.trans (hb1.mono HB3.out.size))
    clear hb1 HB3 HF2
    have hk6 : w.heap.size < w1.heap.size := lt_of_block HF4.out
    have HF7 := Lib.hid (blk_alloc HF4.out (.cells #[.int .i64 a, .int .i64 b, .int .i64 k, .string x, .string o, .string n, .int .i64 t, .int .i64 u] 42 (0, 0)))
    have HF8 := Lib.hid (blk_new w1 (.cells #[.int .i64 a, .int .i64 b, .int .i64 k, .string x, .string o, .string n, .int .i64 t, .int .i64 u] 42 (0, 0)))
    have HB9 := Lib.hid (HB5.out.alloc HB5.out.size (.cells #[.int .i64 a, .int .i64 b, .int .i64 k, .string x, .string o, .string n, .int .i64 t, .int .i64 u] 42 (0, 0)))
    clear HB5
    have hc10 : (w1.alloc (.cells #[.int .i64 a, .int .i64 b, .int .i64 k, .string x, .string o, .string n, .int .i64 t, .int .i64 u] 42 (0, 0))).cell? ⟨w1.heap.size, 0, none⟩ = some (.int .i64 a) := by rw [cell_of_row _ _ _ _ _ _ HF8.out]; rfl
    have hc11 : (w1.alloc (.cells #[.int .i64 a, .int .i64 b, .int .i64 k, .string x, .string o, .string n, .int .i64 t, .int .i64 u] 42 (0, 0))).cell? ⟨w1.heap.size, 1, none⟩ = some (.int .i64 b) := by rw [cell_of_row _ _ _ _ _ _ HF8.out]; rfl
    go_wp2_with (first
      | refine wpList_store_rowY rfl 42 (.tmp 6) (.tmp 29) rfl (w.heap.size) #[.int .i64 0, .int .i64 0, .int .i64 0, .string ⟨#[]⟩, .string ⟨#[]⟩, .string ⟨#[]⟩, .int .i64 0, .int .i64 0] rfl rfl 42 _ HF7.out (info_rec _ _ _ _ _ _ _ _) rfl (one_rec _ _ _ _ _ _ _ _) w.heap.size w HB9.out (by omega) ?_)
    intro W2 hbk hoth hbel _
    clear hc10 hc11
    have HF12 := Lib.hid hbk.out
    have HF13 := Lib.hid (blk_oth HF8.out hoth.out (by omega))
    have HB14 := Lib.hid hbel.out
    clear hbk hoth hbel HB9  HF7 HF8
    go_wp2_with fail
    refine bodyPost_ret (results_ctY rfl _ _ (w.heap.size) #[.int .i64 0, .int .i64 0, .int .i64 0, .string ⟨#[]⟩, .string ⟨#[]⟩, .string ⟨#[]⟩, .int .i64 0, .int .i64 0] rfl (run_loadVar_row _ (w.heap.size) 42 42 _ (0, 0) _ HF12.out Tryz.underlying42 rfl (info_rec _ _ _ _ _ _ _ _))) rfl ?_
    exact ⟨rfl, HB14.out⟩
  · have h2 : (a == ep) = false := by rw [beq_eq_false_iff_ne]; exact h1
    have h3 : (a != ep) = true := by rw [bne, h2]; rfl
    clear hm h1
    have HB1 := Lib.hid (Below.refl w.heap.size w)
    go_enter Tryz.func100, Tryz.ntmps100
    go_wp2_with fail
    have HF2 := Lib.hid (blk_new w (.cells #[.int .i64 0, .int .i64 0, .int .i64 0, .string ⟨#[]⟩, .string ⟨#[]⟩, .string ⟨#[]⟩, .int .i64 0, .int .i64 0] 42 (0, 0)))
    have HB3 := Lib.hid (HB1.out.alloc HB1.out.size (.cells #[.int .i64 0, .int .i64 0, .int .i64 0, .string ⟨#[]⟩, .string ⟨#[]⟩, .string ⟨#[]⟩, .int .i64 0, .int .i64 0] 42 (0, 0)))
    clear HB1
    refine (HTK.out (w.alloc (.cells #[.int .i64 0, .int .i64 0, .int .i64 0, .string ⟨#[]⟩, .string ⟨#[]⟩, .string ⟨#[]⟩, .int .i64 0, .int .i64 0] 42 (0, 0))) (HT.out.later HB3.out)).mono ?_
    rintro e w1 ⟨rfl, hb1⟩
    have HF4 := Lib.hid (blk_below HF2.out hb1)
    have HB5 := Lib.hid (HB3.out.trans (hb1.mono HB3.out.size))
    clear hb1 HB3 HF2
    have hk6 : w.heap.size < w1.heap.size := lt_of_block HF4.out
    have HF7 := Lib.hid (blk_alloc HF4.out (.cells #[.int .i64 a, .int .i64 b, .int .i64 k, .string x, .string o, .string n, .int .i64 t, .int .i64 u] 42 (0, 0)))
    have HF8 := Lib.hid (blk_new w1 (.cells #[.int .i64 a, .int .i64 b, .int .i64 k, .string x, .string o, .string n, .int .i64 t, .int .i64 u] 42 (0, 0)))
    have HB9 := Lib.hid (HB5.out.alloc HB5.out.size (.cells #[.int .i64 a, .int .i64 b, .int .i64 k, .string x, .string o, .string n, .int .i64 t, .int .i64 u] 42 (0, 0)))
    clear HB5
    have hc10 : (w1.alloc (.cells #[.int .i64 a, .int .i64 b, .int .i64 k, .string x, .string o, .string n, .int .i64 t, .int .i64 u] 42 (0, 0))).cell? ⟨w1.heap.size, 0, none⟩ = some (.int .i64 a) := by rw [cell_of_row _ _ _ _ _ _ HF8.out]; rfl
    have hc11 : (w1.alloc (.cells #[.int .i64 a, .int .i64 b, .int .i64 k, .string x, .string o, .string n, .int .i64 t, .int .i64 u] 42 (0, 0))).cell? ⟨w1.heap.size, 1, none⟩ = some (.int .i64 b) := by rw [cell_of_row _ _ _ _ _ _ HF8.out]; rfl
    go_wp2_with (first
      | refine wpList_store_rowY rfl 42 (.tmp 6) (.tmp 29) rfl (w.heap.size) #[.int .i64 0, .int .i64 0, .int .i64 0, .string ⟨#[]⟩, .string ⟨#[]⟩, .string ⟨#[]⟩, .int .i64 0, .int .i64 0] rfl rfl 42 _ HF7.out (info_rec _ _ _ _ _ _ _ _) rfl (one_rec _ _ _ _ _ _ _ _) w.heap.size w HB9.out (by omega) ?_)
    intro W2 hbk hoth hbel _
    clear hc10 hc11
    have HF12 := Lib.hid hbk.out
    have HF13 := Lib.hid (blk_oth HF8.out hoth.out (by omega))
    have HB14 := Lib.hid hbel.out
    clear hbk hoth hbel HB9  HF7 HF8
    go_wp2_with fail
    refine bodyPost_ret (results_ctY rfl _ _ (w.heap.size) #[.int .i64 0, .int .i64 0, .int .i64 0, .string ⟨#[]⟩, .string ⟨#[]⟩, .string ⟨#[]⟩, .int .i64 0, .int .i64 0] rfl (run_loadVar_row _ (w.heap.size) 42 42 _ (0, 0) _ HF12.out Tryz.underlying42 rfl (info_rec _ _ _ _ _ _ _ _))) rfl ?_
    exact ⟨rfl, HB14.out⟩
set_option maxHeartbeats 4000000 in
set_option maxRecDepth 100000 in
theorem eis_no (S : ByteArray) (ep sq : Int) (w : World) (hT : Tab w) (hS : S.size ≤ 1000) (hno : ¬ IsRec S) :
    Calls Tryz.prog 100 #[.string S, .int .i64 ep, .int .i64 sq] w fun e w' => e = .returned (.tuple #[.agg recZ, .bool false]) ∧ Below w.heap.size w w' := by
  have HT := Lib.hid hT
  have HTK := Lib.hid (fun (W : World) (g : Tab W) => etake_no S W g hS hno)
  unfold recZ at HTK ⊢
  clear hno hT
  have HB1 := Lib.hid (Below.refl w.heap.size w)
  go_enter Tryz.func100, Tryz.ntmps100
  go_wp2_with fail
  have HF2 := Lib.hid (blk_new w (.cells #[.int .i64 0, .int .i64 0, .int .i64 0, .string ⟨#[]⟩, .string ⟨#[]⟩, .string ⟨#[]⟩, .int .i64 0, .int .i64 0] 42 (0, 0)))
  have HB3 := Lib.hid (HB1.out.alloc HB1.out.size (.cells #[.int .i64 0, .int .i64 0, .int .i64 0, .string ⟨#[]⟩, .string ⟨#[]⟩, .string ⟨#[]⟩, .int .i64 0, .int .i64 0] 42 (0, 0)))
  clear HB1
  refine (HTK.out (w.alloc (.cells #[.int .i64 0, .int .i64 0, .int .i64 0, .string ⟨#[]⟩, .string ⟨#[]⟩, .string ⟨#[]⟩, .int .i64 0, .int .i64 0] 42 (0, 0))) (HT.out.later HB3.out)).mono ?_
  rintro e w1 ⟨rfl, hb1⟩
  have HF4 := Lib.hid (blk_below HF2.out hb1)
  have HB5 := Lib.hid (HB3.out.trans (hb1.mono HB3.out.size))
  clear hb1 HB3 HF2
  have hk6 : w.heap.size < w1.heap.size := lt_of_block HF4.out
  have HF7 := Lib.hid (blk_alloc HF4.out (.cells #[.int .i64 0, .int .i64 0, .int .i64 0, .string ⟨#[]⟩, .string ⟨#[]⟩, .string ⟨#[]⟩, .int .i64 0, .int .i64 0] 42 (0, 0)))
  have HF8 := Lib.hid (blk_new w1 (.cells #[.int .i64 0, .int .i64 0, .int .i64 0, .string ⟨#[]⟩, .string ⟨#[]⟩, .string ⟨#[]⟩, .int .i64 0, .int .i64 0] 42 (0, 0)))
  have HB9 := Lib.hid (HB5.out.alloc HB5.out.size (.cells #[.int .i64 0, .int .i64 0, .int .i64 0, .string ⟨#[]⟩, .string ⟨#[]⟩, .string ⟨#[]⟩, .int .i64 0, .int .i64 0] 42 (0, 0)))
  clear HB5
  have hc10 : (w1.alloc (.cells #[.int .i64 0, .int .i64 0, .int .i64 0, .string ⟨#[]⟩, .string ⟨#[]⟩, .string ⟨#[]⟩, .int .i64 0, .int .i64 0] 42 (0, 0))).cell? ⟨w1.heap.size, 0, none⟩ = some (.int .i64 0) := by rw [cell_of_row _ _ _ _ _ _ HF8.out]; rfl
  have hc11 : (w1.alloc (.cells #[.int .i64 0, .int .i64 0, .int .i64 0, .string ⟨#[]⟩, .string ⟨#[]⟩, .string ⟨#[]⟩, .int .i64 0, .int .i64 0] 42 (0, 0))).cell? ⟨w1.heap.size, 1, none⟩ = some (.int .i64 0) := by rw [cell_of_row _ _ _ _ _ _ HF8.out]; rfl
  go_wp2_with (first
    | refine wpList_store_rowY rfl 42 (.tmp 6) (.tmp 29) rfl (w.heap.size) #[.int .i64 0, .int .i64 0, .int .i64 0, .string ⟨#[]⟩, .string ⟨#[]⟩, .string ⟨#[]⟩, .int .i64 0, .int .i64 0] rfl rfl 42 _ HF7.out (info_rec _ _ _ _ _ _ _ _) rfl (one_rec _ _ _ _ _ _ _ _) w.heap.size w HB9.out (by omega) ?_)
  intro W2 hbk hoth hbel _
  clear hc10 hc11
  have HF12 := Lib.hid hbk.out
  have HF13 := Lib.hid (blk_oth HF8.out hoth.out (by omega))
  have HB14 := Lib.hid hbel.out
  clear hbk hoth hbel HB9  HF7 HF8
  go_wp2_with fail
  refine bodyPost_ret (results_ctY rfl _ _ (w.heap.size) #[.int .i64 0, .int .i64 0, .int .i64 0, .string ⟨#[]⟩, .string ⟨#[]⟩, .string ⟨#[]⟩, .int .i64 0, .int .i64 0] rfl (run_loadVar_row _ (w.heap.size) 42 42 _ (0, 0) _ HF12.out Tryz.underlying42 rfl (info_rec _ _ _ _ _ _ _ _))) rfl ?_
  exact ⟨rfl, HB14.out⟩
end Go.Proofs.YtiflieaemgamkaaGreatDoor

namespace Go.Proofs.YtiflieaemgamkaaGreatDoor
open Go.RowKit Vi Ar Cm

theorem results_cttJ {fn : Func} {p t u : Tmp} {ty : TypeId} (h : fn.results = #[.cell p ty, .tmp t, .tmp u]) (tmps : Array Value) (w : World) (g : Nat) (cs : Array Value)
    (hp : tmps.getD p undef = .pointer (some ⟨g, 0, none⟩)) (hr : (loadVar ty ⟨g, 0, none⟩).run Tryz.prog w = .ok (.agg cs) w) :
    (results fn tmps).run Tryz.prog w = .ok (.tuple #[.agg cs, tmps.getD t undef, tmps.getD u undef]) w := by
  have hp' : tmps[p]?.getD undef = .pointer (some ⟨g, 0, none⟩) := by simpa using hp
  simp [results, h, hp', asAddr, hr]
theorem results_t3J {fn : Func} {s t u : Tmp} (h : fn.results = #[.tmp s, .tmp t, .tmp u]) (tmps : Array Value) (w : World) :
    (results fn tmps).run Tryz.prog w = .ok (.tuple #[tmps.getD s undef, tmps.getD t undef, tmps.getD u undef]) w := by
  simp [results, h]
theorem step_storeJ {ops : Array Oper} {o : Oper} {a : Act} {K : Act → World → Prop} {Q : Exit → Act → World → Prop} {E : Prop} {w : World} (hgd : o.guard = none) (ty : TypeId) (x y : Operand) (ho : o.op = .store ty x y)
    (g : Nat) (cells : Array Value) (hx : a.eval x = .pointer (some ⟨g, 0, none⟩)) (hy : a.eval y = .agg cells)
    (t : TypeId) (old : Array Value) (hg : w.heap[g]? = some (.cells old t (0, 0))) (hi : (Tryz.prog.info? ty).map (·.size) = some cells.size)
    (hold : old.size = cells.size) (h1 : cells.all (·.oneCell') = true) (n : Nat) (w0 : World) (hb : Below n w0 w) (hn : n ≤ g)
    (h : ∀ w', Hid (w'.heap[g]? = some (.cells cells t (0, 0))) → Hid (∀ k, k ≠ g → w'.heap[k]? = w.heap[k]?) → Hid (Below n w0 w') → K (a.put o.dst undef) w') :
    if Region.wanted o (yielded ops a.tmps) = true then Oper.wp Tryz.prog o a w K Q else E := by
  have hw : Region.wanted o (yielded ops a.tmps) = true := by simp [Region.wanted, hgd]
  rw [if_pos hw]
  exact wp_store_row ty x y ho g cells hx hy t old hg hi hold h1 (h _ (setRow_heap w g old cells t (0, 0) hg) (fun k hk => setRow_other w g k cells hk) (below_setRow hb hn cells))
theorem noz_noughts : noughts 128 = noZ := repJ
theorem noz_norec : ¬ IsRec noZ := by
  rw [← noz_noughts]
  rintro ⟨a, b, k, x, o, n, t, u, h, hs⟩
  have hf := (rec_front h).2
  rw [← hs] at hf
  have h1 := congrArg ByteArray.size hf
  rw [sealH_size] at h1
  have h2 : (bareT (noughts 128)).size = 0 := by decide +kernel
  omega
theorem Tab.dwJ {n : Nat} {w0 w : World} {D : Nat} {d : Ds} (h : DW n w0 D d w) (hT : Tab w0) (hg : 2 < n) : Tab w := fun j hj => by
  rw [World.cell?_of_block (h.bel.block _ hg)]
  exact hT j hj
section
variable {n : Nat} {w0 : World} {D J : Nat} {d : Ds} {w : World} {k0 : Nat}
/-- a journal is there -/
def AtP (n : Nat) (w0 : World) (D : Nat) (d : Ds) (h ep ct : Int) (w : World) (e : Ending) (w' : World) : Prop := ∃ J, e = .returned (.tuple #[.pointer (some ⟨J, 0, none⟩), .int .i64 0]) ∧ JW n w0 D J d h ep ct w' ∧ Below w.heap.size w w' ∧ w.heap.size ≤ J
set_option maxRecDepth 100000 in
set_option maxHeartbeats 2000000 in
theorem jat_yes (h : DW n w0 D d w) (o : DsOk k0 d) (hh ep ct : Int) (hq : hh = 0 ∨ hh = 1) (he1 : 1 ≤ ep) (he2 : ep ≤ 4294967295) (hc1 : 0 ≤ ct) (hc2 : ct ≤ Ar.hf (d.S.length : Int)) :
    Calls Tryz.prog 49 #[.pointer (some ⟨D, 0, none⟩), .int .i64 hh, .int .i64 ep, .int .i64 ct] w (AtP n w0 D d hh ep ct w) := by
  have hs1 : 16 ≤ d.S.length := o.s1
  have hs2 : d.S.length ≤ 4096 := o.s2
  have hb0 : Below w.heap.size w (w.alloc (jnO D hh ep ct)) := (Below.refl _ _).alloc (Nat.le_refl _) _
  have HB := Lib.hid hb0
  have HJ : Hid (JW n w0 D w.heap.size d hh ep ct (w.alloc (jnO D hh ep ct))) := Lib.hid ⟨h.below hb0, blk_new w _, fun q => by have := h.dk.new (q.back hb0 h.lt); omega, h.sz⟩
  obtain ⟨N, hN⟩ : ∃ N : Nat, N = d.S.length := ⟨_, rfl⟩
  have HS := Lib.hid (by have y := h.sizeIs; rw [← hN] at y; exact y : Calls Tryz.prog 97 #[.pointer (some ⟨D, 0, none⟩)] w fun e w' => e = .returned (.int .i64 (N : Int)) ∧ w = w')
  rw [← hN] at hs1 hs2 hc2
  have HH := Lib.hid (fun W : World => half_any (N : Int) W (by omega) (by omega))
  obtain ⟨m, hm⟩ : ∃ m, m = Ar.hf (N : Int) := ⟨_, rfl⟩
  rw [← hm] at HH hc2
  have d0 : ((N : Int) == 0) = false := by rw [beq_eq_false_iff_ne]; omega
  have d1 : decide (ep < 1) = false := decide_eq_false (by omega)
  have d2 : decide (ep > 4294967295) = false := decide_eq_false (by omega)
  have d2' : decide (4294967295 < ep) = false := decide_eq_false (by omega)
  have d3 : decide (ct < 0) = false := decide_eq_false (by omega)
  have d4 : decide (ct > m) = false := decide_eq_false (by omega)
  have d4' : decide (m < ct) = false := decide_eq_false (by omega)
  clear h o hb0 hN hm
  rcases hq with rfl | rfl
  all_goals
    go_enter Tryz.func49, Tryz.ntmps49
    go_wp2_with fail
    refine HS.out.mono ?_
    rintro e w' ⟨rfl, rfl⟩
    go_wp2_with fail
    refine HS.out.mono ?_
    rintro e w' ⟨rfl, rfl⟩
    go_wp2_with fail
    refine (HH.out _).mono ?_
    rintro e w' ⟨rfl, rfl⟩
    go_wp2_with fail
    go_ret2
    exact ⟨_, rfl, HJ.out, HB.out, Nat.le_refl _⟩
end
section
variable {n : Nat} {w0 : World} {D J : Nat} {S : List ByteArray} {C : List Wr} {ar op : Int} {hh ep ct : Int} {w : World} {k0 : Nat}
set_option maxRecDepth 100000 in
set_option maxHeartbeats 8000000 in
set_option linter.unusedSimpArgs false in
theorem jnext_no (h : JW n w0 D J ⟨S, C, ar, false, op⟩ hh ep ct w) (ok : DsOk k0 ⟨S, C, ar, false, op⟩) (hk0 : k0 ≤ 900) (hT : Tab w0) (hg : 2 < n) (a : Int) (hc0 : 0 ≤ ct) (hc1 : ct ≤ 100000) (hp : pl (S.length : Int) hh ct = .tuple #[.int .i64 a, .int .i64 0]) (ha0 : 0 ≤ a) (ha1 : a < (S.length : Int)) (hX : (shw S C a).size ≤ 1000) (hno : ¬ IsRec (shw S C a)) :
    Calls Tryz.prog 50 #[.pointer (some ⟨J, 0, none⟩)] w fun e w' => e = .returned (.tuple #[.agg #[.int .i64 0, .int .i64 0, .int .i64 0, .string ⟨#[]⟩, .string ⟨#[]⟩, .string ⟨#[]⟩, .int .i64 0, .int .i64 0], .bool false, .int .i64 0]) ∧ JW n w0 D J ⟨S, C, ar, false, op + 1⟩ hh ep ct w' ∧ Kd D w w' := by
  have hb0 : Below w.heap.size w (w.alloc (.cells #[.int .i64 0, .int .i64 0, .int .i64 0, .string ⟨#[]⟩, .string ⟨#[]⟩, .string ⟨#[]⟩, .int .i64 0, .int .i64 0] 42 (0, 0))) := (Below.refl _ _).alloc (Nat.le_refl _) _
  have HV := Lib.hid (h.below hb0)
  have hnr : ¬ InD D (w.alloc (.cells #[.int .i64 0, .int .i64 0, .int .i64 0, .string ⟨#[]⟩, .string ⟨#[]⟩, .string ⟨#[]⟩, .int .i64 0, .int .i64 0] 42 (0, 0))) w.heap.size := fun q => by have := h.dw.dk.new (q.back hb0 h.dw.lt); omega
  have HR : Hid (Bx D w.heap.size (.cells #[.int .i64 0, .int .i64 0, .int .i64 0, .string ⟨#[]⟩, .string ⟨#[]⟩, .string ⟨#[]⟩, .int .i64 0, .int .i64 0] 42 (0, 0)) (w.alloc (.cells #[.int .i64 0, .int .i64 0, .int .i64 0, .string ⟨#[]⟩, .string ⟨#[]⟩, .string ⟨#[]⟩, .int .i64 0, .int .i64 0] 42 (0, 0)))) := Lib.hid ⟨blk_new w _, hnr⟩
  have HK := Lib.hid (Kd.of_below hb0 h.dw.lt)
  have HT := Lib.hid hT
  have hJr : J ≠ w.heap.size := fun e => by have := lt_of_block h.bx; omega
  have hDr : D < w.heap.size := h.dw.lt
  have HPL := Lib.hid (fun (W : World) (q : JW n w0 D J ⟨S, C, ar, false, op⟩ hh ep ct W) => jplace_any q ok.s2 ct a 0 (by omega) (by omega) hp)
  have hcl : C.length ≤ 4096 + k0 := ok.c
  have ho1 : 0 ≤ op := ok.o1
  have ho2 : op ≤ (k0 : Int) := ok.o2
  have HRD := Lib.hid (fun (W : World) (q : JW n w0 D J ⟨S, C, ar, false, op⟩ hh ep ct W) => dread_up D S C op ar a W q.dw.dk ⟨ha0, ha1⟩ (by omega) ⟨by omega, by omega⟩)
  have HIS := Lib.hid (fun (W : World) (q : Tab W) => eis_no (shw S C a) ep ct W q hX hno)
  generalize shw S C a = X at HRD HIS
  obtain ⟨v, hv⟩ : ∃ v, v = w.alloc (.cells #[.int .i64 0, .int .i64 0, .int .i64 0, .string ⟨#[]⟩, .string ⟨#[]⟩, .string ⟨#[]⟩, .int .i64 0, .int .i64 0] 42 (0, 0)) := ⟨_, rfl⟩
  have HVV := Lib.hid hv
  rw [← hv] at HV HR HK
  have hwr := h.dw.sz
  clear h ok hT hp hX hno hb0 hnr hv
  go_enter Tryz.func50, Tryz.ntmps50
  go_upto_region 1 with (fail)
  rw [← HVV.out]
  clear HVV
  generalize hrr : w.heap.size = rr at *
  have c3 := HV.out.c3
  go_wp2_with fail
  clear c3
  refine (HPL.out _ HV.out).mono ?_
  rintro e w1 ⟨rfl, hb⟩
  have HR := Lib.hid (HR.out.below hb HV.out.dw.lt)
  have HK := Lib.hid (HK.out.trans (Kd.of_below hb HV.out.dw.lt))
  have HV := Lib.hid (HV.out.below hb)
  clear hb HPL
  have c0 := HV.out.c0
  go_wp2_with fail
  clear c0
  refine (HRD.out _ HV.out).mono ?_
  rintro e w2 ⟨rfl, hd, hk⟩
  have HR := Lib.hid (HR.out.kd hk)
  have HK := Lib.hid (HK.out.trans hk)
  have HV : Hid (JW n w0 D J ⟨S, C, ar, false, op + 1⟩ hh ep ct w2) := Lib.hid (HV.out.kd (HV.out.dw.kd (d' := ⟨S, C, ar, false, op + 1⟩) hk hd) hk)
  clear hd hk HRD
  go_upto_region 5 with (fail)
  have hbd : Below w2.heap.size w2 w2.drew := (Below.refl _ _).drew
  have HR := Lib.hid (HR.out.below hbd HV.out.dw.lt)
  have HK := Lib.hid (HK.out.trans (Kd.of_below hbd HV.out.dw.lt))
  have HV := Lib.hid (HV.out.below hbd)
  clear hbd
  refine wp_region_L_drew (S := fun _ W => W.heap[J]? = some (jnO D hh ep ct)) (by kernel_rfl) HV.out.bx (fun hS hC => ?_)
  generalize w2.drew = v0 at *
  have HB0 := Lib.hid (Below.refl v0.heap.size v0)
  refine wpAnyL_take (i := 0) (oi := { dst := some 32, op := .move (.tmp 7), type := _, pos := _, after := _, guard := none }) (v := ?_) rfl (by kernel_rfl) (by kernel_rfl) (by kernel_rfl) (fun _ _ _ h => h) (fun _ _ => Iff.rfl) hC (Or.inl ⟨by rfl, ?_⟩) (HV.out.below HB0.out).bx (fun hC hS => ?_)
  rotate_left
  · intro W9 hSw; skip; go_simp; try (with_reducible rfl)
  try simp only [Act.put, List.setIfInBounds_toArray, List.set_cons_zero, List.set_cons_succ]
  refine wpAnyL_take (i := 1) (oi := { dst := some 33, op := .move (.tmp 0), type := _, pos := _, after := _, guard := none }) (v := ?_) rfl (by kernel_rfl) (by kernel_rfl) (by kernel_rfl) (fun _ _ _ h => h) (fun _ _ => Iff.rfl) hC (Or.inl ⟨by rfl, ?_⟩) (HV.out.below HB0.out).bx (fun hC hS => ?_)
  rotate_left
  · intro W9 hSw; skip; go_simp; try (with_reducible rfl)
  try simp only [Act.put, List.setIfInBounds_toArray, List.set_cons_zero, List.set_cons_succ]
  refine wpAnyL_take (i := 2) (oi := { dst := some 34, op := .nilCheck (.tmp 33), type := _, pos := _, after := _, guard := none }) (v := ?_) rfl (by kernel_rfl) (by kernel_rfl) (by kernel_rfl) (fun _ _ _ h => h) (fun _ _ => Iff.rfl) hC (Or.inl ⟨by rfl, ?_⟩) (HV.out.below HB0.out).bx (fun hC hS => ?_)
  rotate_left
  · intro W9 hSw; skip; go_simp; try (with_reducible rfl)
  try simp only [Act.put, List.setIfInBounds_toArray, List.set_cons_zero, List.set_cons_succ]
  refine wpAnyL_take (i := 3) (oi := { dst := some 35, op := .fieldAddr 100 (.tmp 34) 2, type := _, pos := _, after := _, guard := none }) (v := ?_) rfl (by kernel_rfl) (by kernel_rfl) (by kernel_rfl) (fun _ _ _ h => h) (fun _ _ => Iff.rfl) hC (Or.inl ⟨by rfl, ?_⟩) (HV.out.below HB0.out).bx (fun hC hS => ?_)
  rotate_left
  · intro W9 hSw; skip; go_simp; try (with_reducible rfl)
  try simp only [Act.put, List.setIfInBounds_toArray, List.set_cons_zero, List.set_cons_succ]
  refine wpAnyL_take (i := 4) (oi := { dst := some 36, op := .load 3 (.tmp 35), type := _, pos := _, after := _, guard := none }) (v := ?_) rfl (by kernel_rfl) (by kernel_rfl) (by kernel_rfl) (fun _ _ _ h => h) (fun _ _ => Iff.rfl) hC (Or.inl ⟨by rfl, ?_⟩) (HV.out.below HB0.out).bx (fun hC hS => ?_)
  rotate_left
  · intro W9 hSw; have q0 := (cell_of_row _ _ 2 _ _ _ hSw.choose_spec.2.2).trans rfl; go_simp; try (with_reducible rfl)
  try simp only [Act.put, List.setIfInBounds_toArray, List.set_cons_zero, List.set_cons_succ]
  refine wpAnyL_take (i := 5) (oi := { dst := some 37, op := .move (.tmp 0), type := _, pos := _, after := _, guard := none }) (v := ?_) rfl (by kernel_rfl) (by kernel_rfl) (by kernel_rfl) (fun _ _ _ h => h) (fun _ _ => Iff.rfl) hC (Or.inl ⟨by rfl, ?_⟩) (HV.out.below HB0.out).bx (fun hC hS => ?_)
  rotate_left
  · intro W9 hSw; skip; go_simp; try (with_reducible rfl)
  try simp only [Act.put, List.setIfInBounds_toArray, List.set_cons_zero, List.set_cons_succ]
  refine wpAnyL_take (i := 6) (oi := { dst := some 38, op := .nilCheck (.tmp 37), type := _, pos := _, after := _, guard := none }) (v := ?_) rfl (by kernel_rfl) (by kernel_rfl) (by kernel_rfl) (fun _ _ _ h => h) (fun _ _ => Iff.rfl) hC (Or.inl ⟨by rfl, ?_⟩) (HV.out.below HB0.out).bx (fun hC hS => ?_)
  rotate_left
  · intro W9 hSw; skip; go_simp; try (with_reducible rfl)
  try simp only [Act.put, List.setIfInBounds_toArray, List.set_cons_zero, List.set_cons_succ]
  refine wpAnyL_take (i := 7) (oi := { dst := some 39, op := .fieldAddr 100 (.tmp 38) 3, type := _, pos := _, after := _, guard := none }) (v := ?_) rfl (by kernel_rfl) (by kernel_rfl) (by kernel_rfl) (fun _ _ _ h => h) (fun _ _ => Iff.rfl) hC (Or.inl ⟨by rfl, ?_⟩) (HV.out.below HB0.out).bx (fun hC hS => ?_)
  rotate_left
  · intro W9 hSw; skip; go_simp; try (with_reducible rfl)
  try simp only [Act.put, List.setIfInBounds_toArray, List.set_cons_zero, List.set_cons_succ]
  refine wpAnyL_take (i := 8) (oi := { dst := some 40, op := .load 3 (.tmp 39), type := _, pos := _, after := _, guard := none }) (v := ?_) rfl (by kernel_rfl) (by kernel_rfl) (by kernel_rfl) (fun _ _ _ h => h) (fun _ _ => Iff.rfl) hC (Or.inl ⟨by rfl, ?_⟩) (HV.out.below HB0.out).bx (fun hC hS => ?_)
  rotate_left
  · intro W9 hSw; have q0 := (cell_of_row _ _ 3 _ _ _ hSw.choose_spec.2.2).trans rfl; go_simp; try (with_reducible rfl)
  try simp only [Act.put, List.setIfInBounds_toArray, List.set_cons_zero, List.set_cons_succ]
  refine wpAnyL_ready (rs := [9, 13]) (by kernel_rfl) (by simp) hC ?_
  refine AllReadyL.cons (o := { dst := some 41, op := .call { callee := .value (.func 100), args := #[.tmp 32, .tmp 36, .tmp 40], argTypes := #[9, 3, 3] }, type := _, pos := _, after := _, guard := none }) rfl (fun K9 hK => ?_) ?_
  · skip
    go_simp
    refine (HIS.out _ (Tab.dwJ (HV.out.below HB0.out).dw HT.out hg)).mono ?_
    rintro e v1 ⟨rfl, hb⟩
    have HB1 := Lib.hid (HB0.out.trans (hb.mono HB0.out.size))
    clear hb
    refine hK _ _ (HV.out.below HB1.out).bx (fun hC => ?_)
    clear hK K9
    try simp only [Act.put, List.setIfInBounds_toArray, List.set_cons_zero, List.set_cons_succ]
    refine wpAnyL_take (i := 10) (oi := { dst := some 31, op := .move (.tmp 41), type := _, pos := _, after := _, guard := none }) (v := ?_) rfl (by kernel_rfl) (by kernel_rfl) (by kernel_rfl) (fun _ _ _ h => h) (fun _ _ => Iff.rfl) hC (Or.inl ⟨by rfl, ?_⟩) (HV.out.below HB1.out).bx (fun hC hS => ?_)
    rotate_left
    · intro W9 hSw; skip; go_simp; try (with_reducible rfl)
    try simp only [Act.put, List.setIfInBounds_toArray, List.set_cons_zero, List.set_cons_succ]
    refine wpAnyL_take (i := 11) (oi := { dst := some 42, op := .extract (.tmp 31) 0, type := _, pos := _, after := _, guard := none }) (v := ?_) rfl (by kernel_rfl) (by kernel_rfl) (by kernel_rfl) (fun _ _ _ h => h) (fun _ _ => Iff.rfl) hC (Or.inl ⟨by rfl, ?_⟩) (HV.out.below HB1.out).bx (fun hC hS => ?_)
    rotate_left
    · intro W9 hSw; skip; go_simp; try (with_reducible rfl)
    try simp only [Act.put, List.setIfInBounds_toArray, List.set_cons_zero, List.set_cons_succ]
    refine wpAnyL_take (i := 12) (oi := { dst := some 43, op := .extract (.tmp 31) 1, type := _, pos := _, after := _, guard := none }) (v := ?_) rfl (by kernel_rfl) (by kernel_rfl) (by kernel_rfl) (fun _ _ _ h => h) (fun _ _ => Iff.rfl) hC (Or.inl ⟨by rfl, ?_⟩) (HV.out.below HB1.out).bx (fun hC hS => ?_)
    rotate_left
    · intro W9 hSw; skip; go_simp; try (with_reducible rfl)
    try simp only [Act.put, List.setIfInBounds_toArray, List.set_cons_zero, List.set_cons_succ]
    refine wpAnyL_ready (rs := [13]) (by kernel_rfl) (by simp) hC ?_
    refine AllReadyL.cons (o := { dst := some 8, op := .alloc 42, type := _, pos := _, after := _, guard := none }) rfl (fun K9 hK => ?_) ?_
    · skip
      go_simp
      have hb : Below v0.heap.size v0 (v1.alloc (.cells #[.int .i64 0, .int .i64 0, .int .i64 0, .string ⟨#[]⟩, .string ⟨#[]⟩, .string ⟨#[]⟩, .int .i64 0, .int .i64 0] 42 (0, 0))) := HB1.out.alloc HB1.out.size _
      have hx := blk_new v1 (.cells #[.int .i64 0, .int .i64 0, .int .i64 0, .string ⟨#[]⟩, .string ⟨#[]⟩, .string ⟨#[]⟩, .int .i64 0, .int .i64 0] 42 (0, 0))
      have hp9 : v0.heap.size ≤ v1.heap.size := HB1.out.size
      generalize v1.alloc (.cells #[.int .i64 0, .int .i64 0, .int .i64 0, .string ⟨#[]⟩, .string ⟨#[]⟩, .string ⟨#[]⟩, .int .i64 0, .int .i64 0] 42 (0, 0)) = v2 at *
      generalize v1.heap.size = p9 at *
      have HB2 := Lib.hid hb
      have HX := Lib.hid hx
      clear hb hx
      refine hK _ _ (HV.out.below HB2.out).bx (fun hC => ?_)
      clear hK K9
      try simp only [Act.put, List.setIfInBounds_toArray, List.set_cons_zero, List.set_cons_succ]
      refine wpAnyL_ready (rs := [14]) (by kernel_rfl) (by simp) hC ?_
      refine AllReadyL.cons (o := { dst := none, op := .store 42 (.tmp 8) (.tmp 42), type := _, pos := _, after := _, guard := none }) rfl (fun K9 hK => ?_) ?_
      · skip
        refine step_storeJ rfl 42 (.tmp 8) (.tmp 42) rfl (p9) recZ rfl rfl 42 _ HX.out (info_rec _ _ _ _ _ _ _ _) rfl (one_rec _ _ _ _ _ _ _ _) v0.heap.size v0 HB2.out (by omega) ?_
        intro v3 hk1 ho1 hb1
        refine hK _ _ (HV.out.below hb1.out).bx (fun hC => ?_)
        clear hK K9
        try simp only [Act.put, List.setIfInBounds_toArray, List.set_cons_zero, List.set_cons_succ]
        refine wpAnyL_take (i := 15) (oi := { dst := some 9, op := .assign (.tmp 43), type := _, pos := _, after := _, guard := none }) (v := ?_) rfl (by kernel_rfl) (by kernel_rfl) (by kernel_rfl) (fun _ _ _ h => h) (fun _ _ => Iff.rfl) hC (Or.inl ⟨by rfl, ?_⟩) (HV.out.below hb1.out).bx (fun hC hS => ?_)
        rotate_left
        · intro W9 hSw; skip; go_simp; try (with_reducible rfl)
        try simp only [Act.put, List.setIfInBounds_toArray, List.set_cons_zero, List.set_cons_succ]
        refine wpAnyL_done (by kernel_rfl) ?_ _
        clear hS hC ho1 HB0 HX
        have HK3 := Lib.hid (HK.out.trans (Kd.of_below hb1.out HV.out.dw.lt))
        have HR3 := Lib.hid (HR.out.below hb1.out HV.out.dw.lt)
        have HV3 := Lib.hid (HV.out.below hb1.out)
        clear HV HR HK
        have y0 : v3.cell? ⟨p9, 0, none⟩ = some (.int .i64 0) := (cell_of_row _ _ 0 _ _ _ hk1.out).trans rfl
        have y1 : v3.cell? ⟨p9, 1, none⟩ = some (.int .i64 0) := (cell_of_row _ _ 1 _ _ _ hk1.out).trans rfl
        have y2 : v3.cell? ⟨p9, 2, none⟩ = some (.int .i64 0) := (cell_of_row _ _ 2 _ _ _ hk1.out).trans rfl
        have y3 : v3.cell? ⟨p9, 3, none⟩ = some (.string ⟨#[]⟩) := (cell_of_row _ _ 3 _ _ _ hk1.out).trans rfl
        have y4 : v3.cell? ⟨p9, 4, none⟩ = some (.string ⟨#[]⟩) := (cell_of_row _ _ 4 _ _ _ hk1.out).trans rfl
        have y5 : v3.cell? ⟨p9, 5, none⟩ = some (.string ⟨#[]⟩) := (cell_of_row _ _ 5 _ _ _ hk1.out).trans rfl
        have y6 : v3.cell? ⟨p9, 6, none⟩ = some (.int .i64 0) := (cell_of_row _ _ 6 _ _ _ hk1.out).trans rfl
        have y7 : v3.cell? ⟨p9, 7, none⟩ = some (.int .i64 0) := (cell_of_row _ _ 7 _ _ _ hk1.out).trans rfl
        go_wp2_with (first
          | refine wpList_store_rowY rfl 42 (.tmp 2) (.tmp 44) rfl rr recZ rfl rfl 42 _ HR3.out.1 (info_rec _ _ _ _ _ _ _ _) rfl (one_rec _ _ _ _ _ _ _ _) rr v3 (Below.refl _ _) (Nat.le_refl _) ?_)
        intro W2 hbk hoth hbel _
        clear y0 y1 y2 y3 y4 y5 y6 y7
        have HKW : Hid (Kd D w W2) := Lib.hid (HK3.out.belowB (by rw [hrr]; exact hbel.out) (by rw [hrr]; exact hDr))
        have HVW : Hid (JW n w0 D J ⟨S, C, ar, false, op + 1⟩ hh ep ct W2) := Lib.hid (HV3.out.kk (g := rr) ⟨hbel.out.os, hbel.out.tape, hbel.out.output, hbel.out.size, fun b _ hn => hoth.out b (by simpa using hn)⟩ HR3.out.2 hwr hJr)
        have HBK := Lib.hid hbk.out
        clear hbk hoth hbel HK3 HV3 HR3
        go_wp2_with fail
        refine bodyPost_ret (results_cttJ rfl _ _ rr recZ rfl (run_loadVar_row _ rr 42 42 _ (0, 0) _ HBK.out Tryz.underlying42 rfl (info_rec _ _ _ _ _ _ _ _))) rfl ?_
        exact ⟨rfl, HVW.out, HKW.out⟩
      exact AllReadyL.nil
    exact AllReadyL.nil
  refine AllReadyL.cons (o := { dst := some 8, op := .alloc 42, type := _, pos := _, after := _, guard := none }) rfl (fun K9 hK => ?_) ?_
  · skip
    go_simp
    have hb : Below v0.heap.size v0 (v0.alloc (.cells #[.int .i64 0, .int .i64 0, .int .i64 0, .string ⟨#[]⟩, .string ⟨#[]⟩, .string ⟨#[]⟩, .int .i64 0, .int .i64 0] 42 (0, 0))) := HB0.out.alloc HB0.out.size _
    have hx := blk_new v0 (.cells #[.int .i64 0, .int .i64 0, .int .i64 0, .string ⟨#[]⟩, .string ⟨#[]⟩, .string ⟨#[]⟩, .int .i64 0, .int .i64 0] 42 (0, 0))
    have hp9 : v0.heap.size ≤ v0.heap.size := HB0.out.size
    generalize v0.alloc (.cells #[.int .i64 0, .int .i64 0, .int .i64 0, .string ⟨#[]⟩, .string ⟨#[]⟩, .string ⟨#[]⟩, .int .i64 0, .int .i64 0] 42 (0, 0)) = v1 at *
    have HB1 := Lib.hid hb
    have HX := Lib.hid hx
    clear hb hx
    refine hK _ _ (HV.out.below HB1.out).bx (fun hC => ?_)
    clear hK K9
    try simp only [Act.put, List.setIfInBounds_toArray, List.set_cons_zero, List.set_cons_succ]
    refine wpAnyL_ready (rs := [9]) (by kernel_rfl) (by simp) hC ?_
    refine AllReadyL.cons (o := { dst := some 41, op := .call { callee := .value (.func 100), args := #[.tmp 32, .tmp 36, .tmp 40], argTypes := #[9, 3, 3] }, type := _, pos := _, after := _, guard := none }) rfl (fun K9 hK => ?_) ?_
    · skip
      go_simp
      refine (HIS.out _ (Tab.dwJ (HV.out.below HB1.out).dw HT.out hg)).mono ?_
      rintro e v2 ⟨rfl, hb⟩
      have HB2 := Lib.hid (HB1.out.trans (hb.mono HB1.out.size))
      have HX := Lib.hid (blk_below HX.out hb)
      clear hb
      refine hK _ _ (HV.out.below HB2.out).bx (fun hC => ?_)
      clear hK K9
      try simp only [Act.put, List.setIfInBounds_toArray, List.set_cons_zero, List.set_cons_succ]
      refine wpAnyL_take (i := 10) (oi := { dst := some 31, op := .move (.tmp 41), type := _, pos := _, after := _, guard := none }) (v := ?_) rfl (by kernel_rfl) (by kernel_rfl) (by kernel_rfl) (fun _ _ _ h => h) (fun _ _ => Iff.rfl) hC (Or.inl ⟨by rfl, ?_⟩) (HV.out.below HB2.out).bx (fun hC hS => ?_)
      rotate_left
      · intro W9 hSw; skip; go_simp; try (with_reducible rfl)
      try simp only [Act.put, List.setIfInBounds_toArray, List.set_cons_zero, List.set_cons_succ]
      refine wpAnyL_take (i := 11) (oi := { dst := some 42, op := .extract (.tmp 31) 0, type := _, pos := _, after := _, guard := none }) (v := ?_) rfl (by kernel_rfl) (by kernel_rfl) (by kernel_rfl) (fun _ _ _ h => h) (fun _ _ => Iff.rfl) hC (Or.inl ⟨by rfl, ?_⟩) (HV.out.below HB2.out).bx (fun hC hS => ?_)
      rotate_left
      · intro W9 hSw; skip; go_simp; try (with_reducible rfl)
      try simp only [Act.put, List.setIfInBounds_toArray, List.set_cons_zero, List.set_cons_succ]
      refine wpAnyL_take (i := 12) (oi := { dst := some 43, op := .extract (.tmp 31) 1, type := _, pos := _, after := _, guard := none }) (v := ?_) rfl (by kernel_rfl) (by kernel_rfl) (by kernel_rfl) (fun _ _ _ h => h) (fun _ _ => Iff.rfl) hC (Or.inl ⟨by rfl, ?_⟩) (HV.out.below HB2.out).bx (fun hC hS => ?_)
      rotate_left
      · intro W9 hSw; skip; go_simp; try (with_reducible rfl)
      try simp only [Act.put, List.setIfInBounds_toArray, List.set_cons_zero, List.set_cons_succ]
      refine wpAnyL_ready (rs := [14]) (by kernel_rfl) (by simp) hC ?_
      refine AllReadyL.cons (o := { dst := none, op := .store 42 (.tmp 8) (.tmp 42), type := _, pos := _, after := _, guard := none }) rfl (fun K9 hK => ?_) ?_
      · skip
        refine step_storeJ rfl 42 (.tmp 8) (.tmp 42) rfl (v0.heap.size) recZ rfl rfl 42 _ HX.out (info_rec _ _ _ _ _ _ _ _) rfl (one_rec _ _ _ _ _ _ _ _) v0.heap.size v0 HB2.out (by omega) ?_
        intro v3 hk1 ho1 hb1
        refine hK _ _ (HV.out.below hb1.out).bx (fun hC => ?_)
        clear hK K9
        try simp only [Act.put, List.setIfInBounds_toArray, List.set_cons_zero, List.set_cons_succ]
        refine wpAnyL_take (i := 15) (oi := { dst := some 9, op := .assign (.tmp 43), type := _, pos := _, after := _, guard := none }) (v := ?_) rfl (by kernel_rfl) (by kernel_rfl) (by kernel_rfl) (fun _ _ _ h => h) (fun _ _ => Iff.rfl) hC (Or.inl ⟨by rfl, ?_⟩) (HV.out.below hb1.out).bx (fun hC hS => ?_)
        rotate_left
        · intro W9 hSw; skip; go_simp; try (with_reducible rfl)
        try simp only [Act.put, List.setIfInBounds_toArray, List.set_cons_zero, List.set_cons_succ]
        refine wpAnyL_done (by kernel_rfl) ?_ _
        clear hS hC ho1 HB0 HX
        have HK3 := Lib.hid (HK.out.trans (Kd.of_below hb1.out HV.out.dw.lt))
        have HR3 := Lib.hid (HR.out.below hb1.out HV.out.dw.lt)
        have HV3 := Lib.hid (HV.out.below hb1.out)
        clear HV HR HK
        have y0 : v3.cell? ⟨v0.heap.size, 0, none⟩ = some (.int .i64 0) := (cell_of_row _ _ 0 _ _ _ hk1.out).trans rfl
        have y1 : v3.cell? ⟨v0.heap.size, 1, none⟩ = some (.int .i64 0) := (cell_of_row _ _ 1 _ _ _ hk1.out).trans rfl
        have y2 : v3.cell? ⟨v0.heap.size, 2, none⟩ = some (.int .i64 0) := (cell_of_row _ _ 2 _ _ _ hk1.out).trans rfl
        have y3 : v3.cell? ⟨v0.heap.size, 3, none⟩ = some (.string ⟨#[]⟩) := (cell_of_row _ _ 3 _ _ _ hk1.out).trans rfl
        have y4 : v3.cell? ⟨v0.heap.size, 4, none⟩ = some (.string ⟨#[]⟩) := (cell_of_row _ _ 4 _ _ _ hk1.out).trans rfl
        have y5 : v3.cell? ⟨v0.heap.size, 5, none⟩ = some (.string ⟨#[]⟩) := (cell_of_row _ _ 5 _ _ _ hk1.out).trans rfl
        have y6 : v3.cell? ⟨v0.heap.size, 6, none⟩ = some (.int .i64 0) := (cell_of_row _ _ 6 _ _ _ hk1.out).trans rfl
        have y7 : v3.cell? ⟨v0.heap.size, 7, none⟩ = some (.int .i64 0) := (cell_of_row _ _ 7 _ _ _ hk1.out).trans rfl
        go_wp2_with (first
          | refine wpList_store_rowY rfl 42 (.tmp 2) (.tmp 44) rfl rr recZ rfl rfl 42 _ HR3.out.1 (info_rec _ _ _ _ _ _ _ _) rfl (one_rec _ _ _ _ _ _ _ _) rr v3 (Below.refl _ _) (Nat.le_refl _) ?_)
        intro W2 hbk hoth hbel _
        clear y0 y1 y2 y3 y4 y5 y6 y7
        have HKW : Hid (Kd D w W2) := Lib.hid (HK3.out.belowB (by rw [hrr]; exact hbel.out) (by rw [hrr]; exact hDr))
        have HVW : Hid (JW n w0 D J ⟨S, C, ar, false, op + 1⟩ hh ep ct W2) := Lib.hid (HV3.out.kk (g := rr) ⟨hbel.out.os, hbel.out.tape, hbel.out.output, hbel.out.size, fun b _ hn => hoth.out b (by simpa using hn)⟩ HR3.out.2 hwr hJr)
        have HBK := Lib.hid hbk.out
        clear hbk hoth hbel HK3 HV3 HR3
        go_wp2_with fail
        refine bodyPost_ret (results_cttJ rfl _ _ rr recZ rfl (run_loadVar_row _ rr 42 42 _ (0, 0) _ HBK.out Tryz.underlying42 rfl (info_rec _ _ _ _ _ _ _ _))) rfl ?_
        exact ⟨rfl, HVW.out, HKW.out⟩
      exact AllReadyL.nil
    exact AllReadyL.nil
  exact AllReadyL.nil
end

end Go.Proofs.YtiflieaemgamkaaGreatDoor

namespace Go.Proofs.YtiflieaemgamkaaGreatDoor
open Go.RowKit Vi Ar Cm

section
variable {n : Nat} {w0 : World} {D J : Nat} {S : List ByteArray} {C : List Wr} {ar op : Int} {hh ep : Int} {w : World} {k0 : Nat}
/-- a journal is opened, and has no record -/
def OpenJ (n : Nat) (w0 : World) (D : Nat) (d : Ds) (hh ep : Int) (e : Ending) (w' : World) : Prop := ∃ J, e = .returned (.tuple #[.pointer (some ⟨J, 0, none⟩), .slice none 0 0, .int .i64 0]) ∧ JW n w0 D J d hh ep 0 w'
set_option linter.unusedSimpArgs false in
set_option maxRecDepth 100000 in
set_option maxHeartbeats 8000000 in
theorem jopen_no (h : DW n w0 D ⟨S, C, ar, false, op⟩ w) (ok : DsOk k0 ⟨S, C, ar, false, op⟩) (hk0 : k0 ≤ 900) (hT : Tab w0) (hg : 2 < n) (a : Int) (hq : hh = 0 ∨ hh = 1) (he1 : 1 ≤ ep) (he2 : ep ≤ 4294967295) (hh2 : 0 ≤ Ar.hf (S.length : Int)) (hp : pl (S.length : Int) hh 0 = .tuple #[.int .i64 a, .int .i64 0]) (ha0 : 0 ≤ a) (ha1 : a < (S.length : Int)) (hX : (shw S C a).size ≤ 1000) (hno : ¬ IsRec (shw S C a)) :
    Calls Tryz.prog 16 #[.pointer (some ⟨D, 0, none⟩), .int .i64 hh, .int .i64 ep] w (OpenJ n w0 D ⟨S, C, ar, false, op + 1⟩ hh ep) := by
  have HAT := Lib.hid (jat_yes h ok hh ep 0 hq he1 he2 (Int.le_refl _) hh2)
  have HNX := Lib.hid (fun (J : Nat) (W : World) (q : JW n w0 D J ⟨S, C, ar, false, op⟩ hh ep 0 W) => jnext_no q ok hk0 hT hg a (Int.le_refl _) (by omega) hp ha0 ha1 hX hno)
  clear h ok hT hg hp hX hno ha0 ha1 hh2 he1 he2 hq
  unfold recZ at HNX
  go_enter Tryz.func16, Tryz.ntmps16
  go_wp2_with fail
  refine HAT.out.mono ?_
  rintro e w1 ⟨J, rfl, hj, _, _⟩
  have HJ := Lib.hid hj
  clear hj HAT
  go_wp2_with fail
  go_loopw [11] (fun i wr => i = .slice none 0 0 ∧ wr = w1) (fun _ _ => 0)
  case atStart => exact ⟨rfl, rfl⟩
  case round =>
    obtain ⟨rfl, rfl⟩ := hrel
    go_wp2_with fail
    refine (HNX.out J _ HJ.out).mono ?_
    rintro e w2 ⟨rfl, hj, _⟩
    have HV := Lib.hid hj
    clear hj HJ HNX
    have hb : Below w2.heap.size w2 (w2.alloc (.cells #[.int .i64 0, .int .i64 0, .int .i64 0, .string ⟨#[]⟩, .string ⟨#[]⟩, .string ⟨#[]⟩, .int .i64 0, .int .i64 0] 42 (0, 0))) := (Below.refl _ _).alloc (Nat.le_refl _) _
    have hx := blk_new w2 (.cells #[.int .i64 0, .int .i64 0, .int .i64 0, .string ⟨#[]⟩, .string ⟨#[]⟩, .string ⟨#[]⟩, .int .i64 0, .int .i64 0] 42 (0, 0))
    have hnb : ¬ InD D (w2.alloc (.cells #[.int .i64 0, .int .i64 0, .int .i64 0, .string ⟨#[]⟩, .string ⟨#[]⟩, .string ⟨#[]⟩, .int .i64 0, .int .i64 0] 42 (0, 0))) w2.heap.size := fun q => by have := HV.out.dw.dk.new (q.back hb HV.out.dw.lt); omega
    have hnp : n ≤ w2.heap.size := HV.out.dw.sz
    have hJp : J ≠ w2.heap.size := fun e => by have := lt_of_block HV.out.bx; omega
    have HX : Hid (Bx D w2.heap.size (.cells #[.int .i64 0, .int .i64 0, .int .i64 0, .string ⟨#[]⟩, .string ⟨#[]⟩, .string ⟨#[]⟩, .int .i64 0, .int .i64 0] 42 (0, 0)) (w2.alloc (.cells #[.int .i64 0, .int .i64 0, .int .i64 0, .string ⟨#[]⟩, .string ⟨#[]⟩, .string ⟨#[]⟩, .int .i64 0, .int .i64 0] 42 (0, 0)))) := Lib.hid ⟨hx, hnb⟩
    have HV := Lib.hid (HV.out.below hb)
    clear hb hx hnb
    go_wp2_with (first
      | refine wpList_store_rowY rfl 42 (.tmp 12) (.tmp 28) rfl (w2.heap.size) #[.int .i64 0, .int .i64 0, .int .i64 0, .string ⟨#[]⟩, .string ⟨#[]⟩, .string ⟨#[]⟩, .int .i64 0, .int .i64 0] rfl rfl 42 _ HX.out.1 (info_rec _ _ _ _ _ _ _ _) rfl (one_rec _ _ _ _ _ _ _ _) w2.heap.size _ (Below.refl _ _) (Nat.le_refl _) ?_)
    intro W3 hk1 ho1 hb1 _
    have HVW : Hid (JW n w0 D J ⟨S, C, ar, false, op + 1⟩ hh ep 0 W3) := Lib.hid (HV.out.kk (g := w2.heap.size) ⟨hb1.out.os, hb1.out.tape, hb1.out.output, hb1.out.size, fun b _ hn => ho1.out b (by simpa using hn)⟩ HX.out.2 hnp hJp)
    clear hk1 ho1 hb1 HX HV hnp hJp
    go_wp2_with fail
    refine bodyPost_ret (results_t3J rfl _ _) rfl ?_
    exact ⟨J, rfl, HVW.out⟩
end
theorem wrt0 {S : List ByteArray} {C : List Wr} {op i : Int} {s : ByteArray} (hi : 0 ≤ i ∧ i < (S.length : Int)) (hs : s.size = 128) : jop ⟨S, C, 0, false, op⟩ (some (i, s)) = (⟨S, C ++ [(i, s)], 0, false, op + 1⟩, 0) := by
  have e : dckE S.length i s = 0 := by unfold dckE; rw [if_pos hi, if_pos hs]
  show (Ds.wrt ⟨S, C, 0, false, op⟩ i s, Ds.wrE ⟨S, C, 0, false, op⟩ i s) = _
  unfold Ds.wrt Ds.wrE
  dsimp only
  rw [if_neg Bool.false_ne_true, if_neg Bool.false_ne_true, e, if_neg (fun h => h rfl), if_neg (fun h => h rfl)]
  rfl
theorem fls0 {S : List ByteArray} {C : List Wr} {op : Int} : jop ⟨S, C, 0, false, op⟩ none = (⟨flsS 0 S C, [], 0, false, op + 1⟩, 0) := by
  show (Ds.fls ⟨S, C, 0, false, op⟩, Ds.flE ⟨S, C, 0, false, op⟩) = _
  unfold Ds.fls Ds.flE
  dsimp only
  rw [if_neg Bool.false_ne_true, if_neg Bool.false_ne_true]
  rfl
theorem jst_go {o : Option Wr} {r : List (Option Wr)} {d d' : Ds} (h : jop d o = (d', 0)) : jst (o :: r) d = jst r d' := by rw [jst, h, if_neg (fun h => h rfl)]
theorem noz_size : noZ.size = 128 := by show (zsD 128).toArray.size = 128; simp [zsD]
theorem japS_up {S : List ByteArray} {op a1 a2 ep ct k : Int} {x o y : ByteArray} {t u : Int} (h1 : 0 ≤ a1 ∧ a1 < (S.length : Int)) (h2 : 0 ≤ a2 ∧ a2 < (S.length : Int)) (hr : rok ep ct k x o y t u = true) :
    (japS ⟨S, [], 0, false, op⟩ a1 a2 ep ct k x o y t u).2 = 0 ∧ (japS ⟨S, [], 0, false, op⟩ a1 a2 ep ct k x o y t u).1.op = op + 4 := by
  have e1 := wrt0 (S := S) (C := []) (op := op) h1 noz_size
  have l1 : (flsS 0 S ([] ++ [(a1, noZ)])).length = S.length := flsS_len _ _ _
  unfold japS
  rw [jst_go e1, jst_go fls0, jst_go (wrt0 (by rw [l1]; exact h2) (rec_size hr)), jst_go fls0]
  exact ⟨rfl, by show op + 1 + 1 + 1 + 1 = op + 4; omega⟩
theorem dsok_newJ (k : Nat) (hk : 16 ≤ k) (hk2 : k ≤ 4096) : DsOk 0 ⟨List.replicate k noZ, [], 0, false, 0⟩ := ⟨by show 16 ≤ (List.replicate k noZ).length; rw [List.length_replicate]; exact hk, by show (List.replicate k noZ).length ≤ 4096; rw [List.length_replicate]; exact hk2, Nat.zero_le _, Int.le_refl _, by show (0 : Int) ≤ _; omega, Int.le_refl _, Int.le_refl _⟩
/-- the record of the chapter's example -/
def dots32 : ByteArray := ⟨#[46, 46, 46, 46, 46, 46, 46, 46, 46, 46, 46, 46, 46, 46, 46, 46, 46, 46, 46, 46, 46, 46, 46, 46, 46, 46, 46, 46, 46, 46, 46, 46]⟩
set_option maxRecDepth 100000 in
theorem some38_any (w : World) : Calls Tryz.prog 34 #[] w fun e w' => e = .returned (.agg #[.int .i64 0, .int .i64 0, .int .i64 1, .string ⟨#[97]⟩, .string ⟨#[]⟩, .string dots32, .int .i64 0, .int .i64 1]) ∧ Below w.heap.size w w' := by
  have HB := Lib.hid ((Below.refl w.heap.size w).alloc (Nat.le_refl _) (.cells #[.int .i64 0, .int .i64 0, .int .i64 1, .string ⟨#[97]⟩, .string ⟨#[]⟩, .string ⟨#[46, 46, 46, 46, 46, 46, 46, 46, 46, 46, 46, 46, 46, 46, 46, 46, 46, 46, 46, 46, 46, 46, 46, 46, 46, 46, 46, 46, 46, 46, 46, 46]⟩, .int .i64 0, .int .i64 1] 42 (0, 0)))
  unfold dots32
  go_enter Tryz.func34, Tryz.ntmps34
  go_wp2_with fail
  refine bodyPost_ret (results_cE rfl _ _ (w.heap.size) #[.int .i64 0, .int .i64 0, .int .i64 1, .string ⟨#[97]⟩, .string ⟨#[]⟩, .string ⟨#[46, 46, 46, 46, 46, 46, 46, 46, 46, 46, 46, 46, 46, 46, 46, 46, 46, 46, 46, 46, 46, 46, 46, 46, 46, 46, 46, 46, 46, 46, 46, 46]⟩, .int .i64 0, .int .i64 1] rfl (run_loadVar_row _ (w.heap.size) 42 42 _ (0, 0) _ (blk_new _ _) Tryz.underlying42 rfl (info_rec _ _ _ _ _ _ _ _))) rfl ?_
  exact ⟨rfl, HB.out⟩
theorem rok_some : rok 1 0 1 ⟨#[97]⟩ ⟨#[]⟩ dots32 0 1 = true := by decide +kernel
theorem shw_new : shw (List.replicate 16 noZ) [] 8 = noZ := rfl
set_option maxRecDepth 100000 in
set_option maxHeartbeats 4000000 in
theorem awake38_any (w : World) (hT : Tab w) : Calls Tryz.prog 7 #[] w fun e w' => e = .returned (.bool true) ∧ Below w.heap.size w w' := by
  have hg : 2 < w.heap.size := World.block_lt_of_cell? w _ (hT 0 (by omega))
  have HT := Lib.hid hT
  have HN := Lib.hid (fun W : World => show Calls Tryz.prog 8 #[.int .i64 16] W (NewD (List.replicate 16 noZ) [] W) from dnew_yes 16 W (by decide) (by decide))
  have HD0 := Lib.hid (dsok_newJ 16 (by decide) (by decide))
  have hS : (List.replicate 16 noZ).length = 16 := List.length_replicate
  have HX := Lib.hid shw_new
  generalize List.replicate 16 noZ = S at HN HD0 hS HX
  have HS := Lib.hid hS
  clear hS hT
  go_enter Tryz.func7, Tryz.ntmps7
  go_wp2_with fail
  refine (HN.out _).mono ?_
  rintro e w1 ⟨D, rfl, hd, hi, hb⟩
  have HW1 : Hid (DW w.heap.size w D ⟨S, [], 0, false, 0⟩ w1) := Lib.hid ⟨hd, hi, hb, hb.size⟩
  clear hd hi hb HN
  go_wp2_with fail
  refine (jopen_no (hh := 0) (ep := 1) HW1.out HD0.out (by decide) HT.out hg 8 (.inl rfl) (by decide) (by decide) (by rw [HS.out]; decide) (by rw [HS.out]; rfl) (by decide) (by rw [HS.out]; decide) (by rw [HX.out, noz_size]; decide) (by rw [HX.out]; exact noz_norec)).mono ?_
  rintro e w2 ⟨J, rfl, hj⟩
  have HJ2 := Lib.hid hj
  clear hj HW1 HX
  have HO1 : Hid (DsOk 1 ⟨S, [], 0, false, 0 + 1⟩) := Lib.hid ⟨HD0.out.s1, HD0.out.s2, Nat.zero_le _, HD0.out.a1, HD0.out.a2, by show (0 : Int) ≤ 0 + 1; omega, by show (0 : Int) + 1 ≤ ((1 : Nat) : Int); omega⟩
  clear HD0
  go_wp2_with fail
  refine HJ2.out.dw.opsIs.mono ?_
  rintro e w' ⟨rfl, rfl⟩
  go_wp2_with fail
  refine (some38_any _).mono ?_
  rintro e w3 ⟨rfl, hb⟩
  have HJ3 := Lib.hid (HJ2.out.below hb)
  clear hb HJ2
  go_wp2_with fail
  refine (jappend_yes HJ3.out HO1.out (by decide) (Tab.dwJ HJ3.out.dw HT.out hg) 0 0 1 ⟨#[97]⟩ ⟨#[]⟩ dots32 0 1 7 8 rok_some (by decide) (by decide) (by rw [HS.out]; rfl) (by rw [HS.out]; rfl)).mono ?_
  rintro e w4 ⟨rfl, hj⟩
  have hz := japS_up (S := S) (op := 0 + 1) (a1 := 7) (a2 := 8) (ep := 1) (ct := 0) (k := 1) (x := ⟨#[97]⟩) (o := ⟨#[]⟩) (y := dots32) (t := 0) (u := 1) (by rw [HS.out]; decide) (by rw [HS.out]; decide) rok_some
  generalize japS ⟨S, [], 0, false, 0 + 1⟩ 7 8 1 0 1 ⟨#[97]⟩ ⟨#[]⟩ dots32 0 1 = Z at hz hj ⊢
  rw [if_pos hz.1] at hj
  rw [hz.1]
  have hzo : Z.1.op = 5 := hz.2
  have HJ4 := Lib.hid hj
  clear hj hz HJ3 HO1
  go_wp2_with fail
  refine (jcount_any HJ4.out).mono ?_
  rintro e w' ⟨rfl, rfl⟩
  go_wp2_with fail
  refine HJ4.out.dw.opsIs.mono ?_
  rintro e w' ⟨rfl, rfl⟩
  rw [hzo]
  go_wp2_with fail
  go_ret
  exact ⟨rfl, HJ4.out.dw.bel⟩
end Go.Proofs.YtiflieaemgamkaaGreatDoor

namespace Go.Proofs.YtiflieaemgamkaaGreatDoor
open Go.RowKit Vi Ar Cm

/-- a journal that no call made -/
def NoJ (p : Option Addr) (w : World) : Prop := p = none ∨ ∃ L, p = some ⟨L, 0, none⟩ ∧ w.heap[L]? = some (.cells #[.pointer none, .int .i64 0, .int .i64 0, .int .i64 0] 100 (0, 0))
theorem NoJ.below {p : Option Addr} {w w' : World} (h : NoJ p w) (hb : Below w.heap.size w w') : NoJ p w' := by
  rcases h with h | ⟨L, h1, h2⟩
  · exact .inl h
  · exact .inr ⟨L, h1, blk_below h2 hb⟩
section
variable {p : Option Addr} {w : World}
end
/-- a record as data -/
abbrev RcJ := Int × Int × Int × ByteArray × ByteArray × ByteArray × Int × Int
def rcJ (r : RcJ) : List Value := [.int .i64 r.1, .int .i64 r.2.1, .int .i64 r.2.2.1, .string r.2.2.2.1, .string r.2.2.2.2.1, .string r.2.2.2.2.2.1, .int .i64 r.2.2.2.2.2.2.1, .int .i64 r.2.2.2.2.2.2.2]
section
variable {L : List RcJ} {A : Option Addr} {n c : Nat} {w : World}
end
end Go.Proofs.YtiflieaemgamkaaGreatDoor

namespace Go.Proofs.YtiflieaemgamkaaGreatDoor
open Go.RowKit Vi

theorem InD.kk {D g : Nat} {w w' : World} (k : KK [g] w w') (hD : D < w.heap.size) (hg : D ≠ g) {b : Nat} (q : InD D w' b) : InD D w b := by
  have hb := k.block D hD (by simpa using hg)
  have hc : ∀ i, w'.cell? ⟨D, i, none⟩ = w.cell? ⟨D, i, none⟩ := fun i => World.cell?_of_block hb
  rcases q with q | ⟨o, n, c, q⟩ | ⟨o, n, c, q⟩
  · exact .inl q
  · exact .inr (.inl ⟨o, n, c, by rw [← hc]; exact q⟩)
  · exact .inr (.inr ⟨o, n, c, by rw [← hc]; exact q⟩)
/-- another type's box -/
def Typ (T : TypeId) : Prop := T ≠ 9 ∧ T ≠ 102 ∧ T ≠ 89
theorem DK.kk {D g : Nat} {SS : List ByteArray} {CC : List Wr} {dn : Bool} {ops fu : Int} {w w' : World} {cs : Array Value} {T : TypeId} {fr : Nat × Nat} (h : DK D SS CC dn ops fu w) (k : KK [g] w w') (hg : w.heap[g]? = some (.cells cs T fr)) (hT : Typ T) : DK D SS CC dn ops fu w' := by
  obtain ⟨⟨sa, sn, sc, ca, cn, cc, h1, h2, h3⟩, h4⟩ := h
  have hne : D ∉ [g] := fun e => by
    obtain rfl : D = g := by simpa using e
    rw [hg] at h1
    cases h1
    exact hT.2.2 rfl
  exact ⟨⟨sa, sn, sc, ca, cn, cc, k.blk h1 hne, h2.kkD k hg (fun e => hT.1 e.symm), h3.kkD k hg (fun e => hT.2.1 e.symm)⟩, h4⟩
theorem DK.ne {D g : Nat} {SS : List ByteArray} {CC : List Wr} {dn : Bool} {ops fu : Int} {w : World} {cs : Array Value} {T : TypeId} {fr : Nat × Nat} (h : DK D SS CC dn ops fu w) (hg : w.heap[g]? = some (.cells cs T fr)) (hT : Typ T) : D ≠ g := by
  obtain ⟨⟨sa, sn, sc, ca, cn, cc, h1, h2, h3⟩, h4⟩ := h
  intro e
  subst e
  rw [hg] at h1
  cases h1
  exact hT.2.2 rfl
theorem DW.kk {n : Nat} {w0 : World} {D g : Nat} {d : Ds} {w w' : World} {cs : Array Value} {T : TypeId} {fr : Nat × Nat} (h : DW n w0 D d w) (k : KK [g] w w') (hg : w.heap[g]? = some (.cells cs T fr)) (hT : Typ T) (hn : n ≤ g) : DW n w0 D d w' :=
  ⟨h.dk.kk k hg hT, fun b q => h.far b (q.kk k h.lt (h.dk.ne hg hT)), k.below h.bel (fun b hb => by obtain rfl : b = g := (by simpa using hb); exact hn) h.sz, Nat.le_trans h.sz k.size⟩
theorem Kd.kk {D g : Nat} {w1 w w' : World} {SS : List ByteArray} {CC : List Wr} {dn : Bool} {ops fu : Int} {cs : Array Value} {T : TypeId} {fr : Nat × Nat} (h : Kd D w1 w) (hd : DK D SS CC dn ops fu w) (k : KK [g] w w') (hg : w.heap[g]? = some (.cells cs T fr)) (hT : Typ T) (hn : w1.heap.size ≤ g) : Kd D w1 w' :=
  ⟨k.os.trans h.os, k.tape.trans h.tape, k.output.trans h.output, Nat.le_trans h.size k.size, fun b hb q => (k.block b (Nat.lt_of_lt_of_le hb h.size) (fun e => by obtain rfl : b = g := (by simpa using e); omega)).trans (h.block b hb q), fun b hb q => h.ind b hb (q.kk k hd.lt (hd.ne hg hT))⟩
/-- a row of texts, or of writes, isn't in a box without texts -/
theorem RdX.kkS {α : Type} {f : α → List Value} {s : Nat} {w w' : World} {A : Option Addr} {n : Nat} {l : List α} {g : Nat} {cs : Array Value} {T : TypeId} (h : RdX f s w A n l) (hf : ∀ x, ∃ (p : Nat) (t : ByteArray), (f x)[p]? = some (Value.string t)) (k : KK [g] w w') (hg : w.heap[g]? = some (.cells cs T (0, 0))) (hc : ∀ i : Nat, ∀ t, cs[i]? ≠ some (Value.string t)) : RdX f s w' A n l := by
  obtain ⟨h1, h2⟩ := h
  refine ⟨h1, fun hn => ?_⟩
  obtain ⟨b, off, e, hb, hcell⟩ := h2 hn
  have hne : b ≠ g := fun e2 => by
    subst e2
    obtain ⟨x, hx⟩ : ∃ x, l[0]? = some x := ⟨_, List.getElem?_eq_getElem (by omega : 0 < l.length)⟩
    obtain ⟨p, t, hp⟩ := hf x
    have q := hcell 0 x p _ hx hp
    rw [cell_of_row _ _ _ _ _ _ hg] at q
    exact hc _ t q
  exact ⟨b, off, e, Nat.lt_of_lt_of_le hb k.size, fun i x j u hx hu => (World.cell?_of_block (k.block b hb (by simpa using hne))).trans (hcell i x j u hx hu)⟩
theorem stC_txt : ∀ x, ∃ (p : Nat) (t : ByteArray), (stC x)[p]? = some (Value.string t) := fun x => ⟨0, x, rfl⟩
theorem wrC_txt : ∀ x, ∃ (p : Nat) (t : ByteArray), (wrC x)[p]? = some (Value.string t) := fun x => ⟨1, x.2, rfl⟩
theorem nt2 (A : Option Addr) (n c : Nat) (A2 : Option Addr) (n2 c2 : Nat) (ar : Int) (go : Bool) (op : Int) : ∀ i : Nat, ∀ t, (#[Value.slice A n c, .slice A2 n2 c2, .int .i64 ar, .bool go, .int .i64 op] : Array Value)[i]? ≠ some (Value.string t) := by
  intro i t
  match i with
  | 0 => simp
  | 1 => simp
  | 2 => simp
  | 3 => simp
  | 4 => simp
  | k + 5 => simp
theorem RdA.kkS {α : Type} {D : Nat} {f : α → List Value} {s : Nat} {w w' : World} {A : Option Addr} {n : Nat} {l : List α} {g : Nat} {cs : Array Value} {T : TypeId} (h : RdA D f s w A n l) (hf : ∀ x, ∃ (p : Nat) (t : ByteArray), (f x)[p]? = some (Value.string t)) (k : KK [g] w w') (hg : w.heap[g]? = some (.cells cs T (0, 0))) (hc : ∀ i : Nat, ∀ t, cs[i]? ≠ some (Value.string t)) (hD : D < w.heap.size) (hDg : D ≠ g) : RdA D f s w' A n l :=
  ⟨h.1.kkS hf k hg hc, fun hn b o e q => h.2 hn b o e (q.kk k hD hDg)⟩
abbrev rdC (A : Option Addr) (n c : Nat) (A2 : Option Addr) (n2 c2 : Nat) (d : Ds) : Array Value := #[.slice A n c, .slice A2 n2 c2, .int .i64 d.ar, .bool d.go, .int .i64 d.op]
section
variable {n0 : Nat} {w0 w1 : World} {D ri : Nat} {dp dr : Ds} {A : Option Addr} {n c : Nat} {A2 : Option Addr} {n2 c2 : Nat} {a : Ac} {W W' : World}
end
end Go.Proofs.YtiflieaemgamkaaGreatDoor

namespace Go.Proofs.YtiflieaemgamkaaGreatDoor
open Go.RowKit Vi Ar

end Go.Proofs.YtiflieaemgamkaaGreatDoor

namespace Go.Proofs.YtiflieaemgamkaaGreatDoor
open Go.RowKit Vi

/-- the bytes of the first k sectors from f on -/
def gatL (S : List ByteArray) (C : List Wr) (f : Int) : Nat → List UInt8
  | 0 => []
  | k + 1 => gatL S C f k ++ (shw S C (f + (k : Int))).data.toList
def LgE (w : World) (B : Nat) : Prop := w.heap[B]? = some (.cells #[.pointer none, .slice none 0 0] 156 (0, 0))
/-- what is behind the first k sectors -/
structure GaS (n : Nat) (w0 : World) (D : Nat) (S : List ByteArray) (C : List Wr) (ar op : Int) (f : Int) (k : Nat) (w wr : World) : Prop where
  bld : Bld wr w.heap.size w.heap.size (gatL S C f k)
  emp : gatL S C f k = [] → LgE wr w.heap.size
  dw : DW n w0 D ⟨S, C, ar, false, op + (k : Int)⟩ wr
  ind : ∀ b, InD D wr b → b < w.heap.size
  kd : Kd D w wr
end Go.Proofs.YtiflieaemgamkaaGreatDoor

namespace Go.Proofs.YtiflieaemgamkaaGreatDoor
open Go.RowKit Vi Ar

theorem Kd.kkN {D g : Nat} {w1 w w' : World} {SS : List ByteArray} {CC : List Wr} {dn : Bool} {ops fu : Int} (h : Kd D w1 w) (hd : DK D SS CC dn ops fu w) (k : KK [g] w w') (hng : ¬ InD D w g) (hn : w1.heap.size ≤ g) : Kd D w1 w' :=
  ⟨k.os.trans h.os, k.tape.trans h.tape, k.output.trans h.output, Nat.le_trans h.size k.size, fun b q hni => (k.block b (Nat.lt_of_lt_of_le q h.size) (fun e => by
      obtain rfl : b = g := by simpa using e
      omega)).trans (h.block b q hni), fun b q hin => h.ind b q (hin.kkM k hd.lt (fun e => hng (.inl e.symm)))⟩
end Go.Proofs.YtiflieaemgamkaaGreatDoor

namespace Go.Proofs.YtiflieaemgamkaaGreatDoor
open Go.RowKit Vi Ar

section
variable {n : Nat} {w0 : World} {D L : Nat} {d : Ds} {f m : Int} {t : ByteArray} {w : World} {k0 : Nat}
end
end Go.Proofs.YtiflieaemgamkaaGreatDoor

namespace Go.Proofs.YtiflieaemgamkaaGreatDoor
open Go.RowKit Vi Ar

theorem setP_ok (P : Nat → ByteArray → Prop) (p : Nat → Bool) : ∀ (C : List Wr) (k : Nat) (S : List ByteArray), (∀ x ∈ C, P x.1.toNat x.2) → (∀ (q : Nat) (t : ByteArray), S[q]? = some t → P q t) → ∀ (q : Nat) (t : ByteArray), (setP p k C S)[q]? = some t → P q t
  | [], _, _, _, hS => hS
  | x :: r, k, S, hC, hS => by
    rw [setP]
    refine setP_ok P p r (k + 1) _ (fun y hy => hC y (List.mem_cons_of_mem _ hy)) (fun q t hq => ?_)
    split at hq
    · rw [List.getElem?_set] at hq
      split at hq
      · next e =>
        split at hq
        · injection hq with hq
          subst hq e
          exact hC x (List.mem_cons_self ..)
        · cases hq
      · exact hS q t hq
    · exact hS q t hq
end Go.Proofs.YtiflieaemgamkaaGreatDoor

namespace Go.Proofs.YtiflieaemgamkaaGreatDoor
open Go.RowKit Vi Ar Cm

theorem dck_zero {n : Nat} {i : Int} {s : ByteArray} (h : dckE n i s = 0) : (0 ≤ i ∧ i < (n : Int)) ∧ s.size = 128 := by
  unfold dckE at h
  split at h
  · next q =>
    split at h
    · next q2 => exact ⟨q, q2⟩
    · exact absurd h (by decide)
  · exact absurd h (by decide)
/-- a disk all of whose sectors have 128 bytes -/
structure GoodD (d : Ds) : Prop where
  s : ∀ (q : Nat) (t : ByteArray), d.S[q]? = some t → t.size = 128
  c : ∀ x ∈ d.C, 0 ≤ x.1 ∧ x.1 < (d.S.length : Int) ∧ x.2.size = 128
section
variable {d : Ds}
theorem GoodD.wrt (h : GoodD d) (i : Int) (s : ByteArray) : GoodD (d.wrt i s) := by
  unfold Ds.wrt
  split
  · exact h
  split
  · exact h
  · next q =>
    have e := dck_zero (Decidable.of_not_not q)
    refine ⟨h.s, fun x hx => ?_⟩
    have hx' : x ∈ wrtC d.ar d.C i s := hx
    unfold wrtC at hx'
    split at hx'
    · exact h.c x hx'
    · rcases List.mem_append.1 hx' with y | y
      · exact h.c x y
      · obtain rfl := List.mem_singleton.1 y
        exact ⟨e.1.1, e.1.2, e.2⟩
theorem GoodD.fls (h : GoodD d) : GoodD d.fls := by
  unfold Ds.fls
  split
  · exact h
  refine ⟨fun q t ht => ?_, fun x hx => ?_⟩
  · have ht' : (flsS d.ar d.S d.C)[q]? = some t := ht
    unfold flsS at ht'
    split at ht'
    · exact h.s q t ht'
    · exact setP_ok (fun _ t => t.size = 128) _ d.C 0 d.S (fun x hx => (h.c x hx).2.2) h.s q t ht'
  · have hx' : x ∈ stpC d.ar d.C := hx
    unfold stpC at hx'
    split at hx'
    · have y := h.c x hx'
      show 0 ≤ x.1 ∧ x.1 < ((flsS d.ar d.S d.C).length : Int) ∧ x.2.size = 128
      rw [flsS_len]
      exact y
    · cases hx'
theorem GoodD.arm (h : GoodD d) (k : Int) : GoodD (d.arm k) := by
  unfold Ds.arm
  split
  · exact ⟨h.s, h.c⟩
  · exact h
theorem GoodD.crash (h : GoodD d) (ks : List Int) : GoodD (d.crash ks) := ⟨fun q t ht => setP_ok (fun _ t => t.size = 128) (inK ks) d.C 0 d.S (fun x hx => (h.c x hx).2.2) h.s q t ht, fun x hx => by cases hx⟩
theorem GoodD.boot (h : GoodD d) : GoodD d.boot := ⟨h.s, fun x hx => by cases hx⟩
theorem GoodD.over (h : GoodD d) (i : Int) (s : ByteArray) : GoodD (d.over i s) := by
  have hl : (d.over i s).S.length = d.S.length := overS_len _ _ _
  refine ⟨fun q t ht => ?_, fun x hx => by rw [hl]; exact h.c x hx⟩
  have ht' : (overS d.S i s)[q]? = some t := ht
  unfold overS at ht'
  split at ht'
  · next e =>
    rw [List.getElem?_set] at ht'
    split at ht'
    · split at ht'
      · injection ht' with ht'
        subst ht'
        exact (dck_zero e).2
      · cases ht'
    · exact h.s q t ht'
  · exact h.s q t ht'
theorem GoodD.red (h : GoodD d) (i : Int) : GoodD (d.red i) := by
  unfold Ds.red
  split
  · exact ⟨h.s, h.c⟩
  · exact h
theorem GoodD.new (k : Nat) : GoodD ⟨List.replicate k noZ, [], 0, false, 0⟩ := ⟨fun q t ht => by
  have h1 : t ∈ List.replicate k noZ := List.mem_of_getElem? ht
  rw [(List.mem_replicate.1 h1).2]
  exact noz_size, fun x hx => by cases hx⟩
theorem GoodD.jop (h : GoodD d) (o : Option Wr) : GoodD (jop d o).1 := by
  cases o with
  | none => exact h.fls
  | some x => exact h.wrt x.1 x.2
theorem shwL_size (i : Int) : ∀ (C : List Wr) (s : ByteArray), s.size = 128 → (∀ x ∈ C, x.2.size = 128) → (shwL i C s).size = 128
  | [], _, h, _ => h
  | x :: r, s, h, hC => by
    show (shwL i r _).size = 128
    refine shwL_size i r _ ?_ (fun y hy => hC y (List.mem_cons_of_mem _ hy))
    split
    · exact hC x (List.mem_cons_self ..)
    · exact h
theorem GoodD.rds (h : GoodD d) (i : Int) : (d.rdS i).size ≤ 1000 := by
  unfold Ds.rdS
  split
  · next e =>
    unfold Ds.rdE at e
    split at e
    · exact absurd e (by decide)
    · split at e
      · next q =>
        have hi : i.toNat < d.S.length := by omega
        unfold shw
        rw [List.getElem?_eq_getElem hi]
        show (shwL i d.C d.S[i.toNat]).size ≤ 1000
        rw [shwL_size i d.C _ (h.s _ _ (List.getElem?_eq_getElem hi)) (fun x hx => (h.c x hx).2.2)]
        omega
      · exact absurd e (by decide)
  · exact Nat.zero_le _
end
/-- the sector of a record -/
def plA (N hh s : Int) : Int := fs N hh + hf N - 1 - s
theorem pl_in {N hh s : Int} (h0 : 0 ≤ s) (h1 : s < hf N) : pl N hh s = .tuple #[.int .i64 (plA N hh s), .int .i64 0] := by unfold pl plA; rw [if_neg (by omega)]
theorem pl_out {N hh s : Int} (h1 : hf N ≤ s) : pl N hh s = .tuple #[.int .i64 0, .int .i64 8] := by unfold pl; rw [if_pos (by omega)]
theorem hf_bd (N : Int) : 0 ≤ hf N ∧ hf N ≤ 2047 := by unfold hf; split <;> omega
theorem fs_bd (N hh : Int) : 2 ≤ fs N hh ∧ fs N hh ≤ 2049 := by have := hf_bd N; unfold fs; split <;> omega
theorem rjplace_any (N hh s : Int) (w : World) (h0 : 0 ≤ N) (h1 : N ≤ 4096) (hs0 : 0 ≤ s) (hs1 : s ≤ 100000) :
    Calls Tryz.prog 20 #[.int .i64 N, .int .i64 hh, .int .i64 s] w fun e w' => e = .returned (.int .i64 (plA N hh s)) ∧ w = w' := by
  have HF := Lib.hid (refFirst_any N hh w (by omega) (by omega))
  have HH := Lib.hid (refHalf_any N w (by omega) (by omega))
  have b1 := hf_bd N
  have b2 := fs_bd N hh
  unfold plA
  generalize fs N hh = F at *
  generalize hf N = H at *
  have e1 : IntKind.i64.wrap (F + H) = F + H := IntWalk.i64_in _ (by omega)
  have e2 : IntKind.i64.wrap (F + H - 1) = F + H - 1 := IntWalk.i64_in _ (by omega)
  have e3 : IntKind.i64.wrap (F + H - 1 - s) = F + H - 1 - s := IntWalk.i64_in _ (by omega)
  go_enter Tryz.func20, Tryz.ntmps20
  go_wp2_with fail
  refine HF.out.mono ?_
  rintro e w' ⟨rfl, rfl⟩
  go_wp2_with fail
  refine HH.out.mono ?_
  rintro e w' ⟨rfl, rfl⟩
  go_wp2_with fail
  go_ret
  exact ⟨rfl, rfl⟩
def jBad (N hh ep ct : Int) : Bool := !(decide (hh = 0) || decide (hh = 1)) || decide (ep < 1) || decide (4294967295 < ep) || decide (ct < 0) || decide (Ar.hf N < ct)
structure SQ (k g : Nat) (o : Obj) (A : World → Prop) (L : Array Bool) (W : World) : Prop where
  a : A W
  d : L.getD k false = false → W.heap[g]? = some o
theorem SQ.set {k g j : Nat} {o : Obj} {A : World → Prop} (h1 : j ≠ k) (L : Array Bool) (w : World) : SQ k g o A (L.setIfInBounds j true) w ↔ SQ k g o A L w :=
  ⟨fun h => ⟨h.a, fun q => h.d (by rw [getF_set L j k h1]; exact q)⟩, fun h => ⟨h.a, fun q => h.d (by rw [getF_set L j k h1] at q; exact q)⟩⟩
theorem RdP.kkS {α : Type} {P : Nat → Prop} {f : α → List Value} {s : Nat} {w w' : World} {A : Option Addr} {n : Nat} {l : List α} {g : Nat} {cs : Array Value} {T : TypeId} (h : RdP P f s w A n l) (hf : ∀ x, ∃ (p : Nat) (t : ByteArray), (f x)[p]? = some (Value.string t)) (k : KK [g] w w') (hg : w.heap[g]? = some (.cells cs T (0, 0))) (hc : ∀ i : Nat, ∀ t, cs[i]? ≠ some (Value.string t)) : RdP P f s w' A n l := ⟨h.1.kkS hf k hg hc, h.2⟩
/-- the document's boxes: a disk's, a result's, and a record's; the disk's rows -/
structure DB (P : Nat → Prop) (n p r : Nat) (d : Ds) (A : Option Addr) (m c : Nat) (A2 : Option Addr) (m2 c2 : Nat) (w W : World) : Prop where
  pb : W.heap[p]? = some (.cells (rdC A m c A2 m2 c2 d) 36 (0, 0))
  rb : W.heap[r]? = some (.cells #[.slice none 0 0, .slice none 0 0, .int .i64 0, .bool false, .int .i64 0] 36 (0, 0))
  rv : RV P d A m A2 m2 W
  be : Below n w W
  ge : n ≤ W.heap.size
  np : n ≤ p
  nr : n ≤ r
  ne : r ≠ p
section
variable {P : Nat → Prop} {n p r : Nat} {d : Ds} {A : Option Addr} {m c : Nat} {A2 : Option Addr} {m2 c2 : Nat} {w W W' : World}
theorem DB.kept (h : DB P n p r d A m c A2 m2 c2 w W) (hb : Below W.heap.size W W') : DB P n p r d A m c A2 m2 c2 w W' :=
  ⟨blk_below h.pb hb, blk_below h.rb hb, ⟨h.rv.s.below hb, h.rv.c.below hb⟩, h.be.trans (hb.mono h.ge), Nat.le_trans h.ge hb.size, h.np, h.nr, h.ne⟩
theorem DB.put {d' : Ds} {B : Option Addr} {k kc : Nat} {B2 : Option Addr} {k2 kc2 : Nat} (h : DB P n p r d A m c A2 m2 c2 w W) (h2 : RV P d' B k B2 k2 W) (hbk : W'.heap[p]? = some (.cells (rdC B k kc B2 k2 kc2 d') 36 (0, 0))) (ho : ∀ j, j ≠ p → W'.heap[j]? = W.heap[j]?) (hb : Below n w W') (hs : Below W.heap.size W W' ∨ W'.heap.size = W.heap.size) : DB P n p r d' B k kc B2 k2 kc2 w W' := by
  have hz : W.heap.size ≤ W'.heap.size := by
    rcases hs with q | q
    · exact q.size
    · omega
  have hk : KK [p] W W' := ⟨hb.os.trans h.be.os.symm, hb.tape.trans h.be.tape.symm, hb.output.trans h.be.output.symm, hz, fun b _ hn => ho b (by simpa using hn)⟩
  exact ⟨hbk, (ho r h.ne).trans h.rb, ⟨h2.s.kkS stC_txt hk h.pb (nt2 _ _ _ _ _ _ _ _ _), h2.c.kkS wrC_txt hk h.pb (nt2 _ _ _ _ _ _ _ _ _)⟩, hb, Nat.le_trans h.ge hz, h.np, h.nr, h.ne⟩
end
end Go.Proofs.YtiflieaemgamkaaGreatDoor

namespace Go.Proofs.YtiflieaemgamkaaGreatDoor
open Go.RowKit Vi Ar Cm

section
variable {n : Nat} {w0 : World} {D J : Nat} {d : Ds} {w : World} {k0 : Nat}
end
section
variable {n : Nat} {w0 : World} {D J : Nat} {d : Ds} {hh ep ct : Int} {w : World} {k0 : Nat}
set_option maxRecDepth 100000 in
set_option maxHeartbeats 4000000 in
set_option linter.unusedSimpArgs false in
theorem jnext_full (h : JW n w0 D J d hh ep ct w) (ok : DsOk k0 d) (hc0 : 0 ≤ ct) (hc1 : ct ≤ 100000) (hp : pl (d.S.length : Int) hh ct = .tuple #[.int .i64 0, .int .i64 8]) :
    Calls Tryz.prog 50 #[.pointer (some ⟨J, 0, none⟩)] w fun e w' => e = .returned (.tuple #[.agg recZ, .bool false, .int .i64 0]) ∧ JW n w0 D J d hh ep ct w' ∧ Kd D w w' := by
  have hb0 : Below w.heap.size w (w.alloc (.cells #[.int .i64 0, .int .i64 0, .int .i64 0, .string ⟨#[]⟩, .string ⟨#[]⟩, .string ⟨#[]⟩, .int .i64 0, .int .i64 0] 42 (0, 0))) := (Below.refl _ _).alloc (Nat.le_refl _) _
  have HV := Lib.hid (h.below hb0)
  have hnr : ¬ InD D (w.alloc (.cells #[.int .i64 0, .int .i64 0, .int .i64 0, .string ⟨#[]⟩, .string ⟨#[]⟩, .string ⟨#[]⟩, .int .i64 0, .int .i64 0] 42 (0, 0))) w.heap.size := fun q => by have := h.dw.dk.new (q.back hb0 h.dw.lt); omega
  have HR : Hid (Bx D w.heap.size (.cells #[.int .i64 0, .int .i64 0, .int .i64 0, .string ⟨#[]⟩, .string ⟨#[]⟩, .string ⟨#[]⟩, .int .i64 0, .int .i64 0] 42 (0, 0)) (w.alloc (.cells #[.int .i64 0, .int .i64 0, .int .i64 0, .string ⟨#[]⟩, .string ⟨#[]⟩, .string ⟨#[]⟩, .int .i64 0, .int .i64 0] 42 (0, 0)))) := Lib.hid ⟨blk_new w _, hnr⟩
  have HK := Lib.hid (Kd.of_below hb0 h.dw.lt)
  have hJr : J ≠ w.heap.size := fun e => by have := lt_of_block h.bx; omega
  have hDr : D < w.heap.size := h.dw.lt
  have HPL := Lib.hid (fun (W : World) (q : JW n w0 D J d hh ep ct W) => jplace_any q ok.s2 ct 0 8 (by omega) (by omega) hp)
  obtain ⟨v, hv⟩ : ∃ v, v = w.alloc (.cells #[.int .i64 0, .int .i64 0, .int .i64 0, .string ⟨#[]⟩, .string ⟨#[]⟩, .string ⟨#[]⟩, .int .i64 0, .int .i64 0] 42 (0, 0)) := ⟨_, rfl⟩
  have HVV := Lib.hid hv
  rw [← hv] at HV HR HK
  have hwr := h.dw.sz
  clear h hp hb0 hnr hv ok
  go_enter Tryz.func50, Tryz.ntmps50
  go_upto_region 1 with (fail)
  rw [← HVV.out]
  clear HVV
  generalize hrr : w.heap.size = rr at *
  have c3 := HV.out.c3
  go_wp2_with fail
  clear c3
  refine (HPL.out _ HV.out).mono ?_
  rintro e w1 ⟨rfl, hb⟩
  have HR := Lib.hid (HR.out.below hb HV.out.dw.lt)
  have HK := Lib.hid (HK.out.trans (Kd.of_below hb HV.out.dw.lt))
  have HV := Lib.hid (HV.out.below hb)
  clear hb HPL
  go_wp2_with (first
    | refine wpList_store_rowY rfl 42 (.tmp 2) (.tmp 21) rfl rr recZ rfl rfl 42 _ HR.out.1 (info_rec _ _ _ _ _ _ _ _) rfl (one_rec _ _ _ _ _ _ _ _) rr w1 (Below.refl _ _) (Nat.le_refl _) ?_)
  intro W2 hbk hoth hbel _
  have HKW : Hid (Kd D w W2) := Lib.hid (HK.out.belowB (by rw [hrr]; exact hbel.out) (by rw [hrr]; exact hDr))
  have HVW : Hid (JW n w0 D J d hh ep ct W2) := Lib.hid (HV.out.kk (g := rr) ⟨hbel.out.os, hbel.out.tape, hbel.out.output, hbel.out.size, fun b _ hn => hoth.out b (by simpa using hn)⟩ HR.out.2 hwr hJr)
  have HBK := Lib.hid hbk.out
  clear hbk hoth hbel HK HV HR
  go_wp2_with fail
  refine bodyPost_ret (results_cttJ rfl _ _ rr recZ rfl (run_loadVar_row _ rr 42 42 _ (0, 0) _ HBK.out Tryz.underlying42 rfl (info_rec _ _ _ _ _ _ _ _))) rfl ?_
  exact ⟨rfl, HVW.out, HKW.out⟩
set_option maxRecDepth 100000 in
set_option maxHeartbeats 8000000 in
set_option linter.unusedSimpArgs false in
theorem jnext_any (h : JW n w0 D J d hh ep ct w) (ok : DsOk k0 d) (hk0 : k0 ≤ 900) (hT : Tab w0) (hg : 2 < n) (a : Int) (hc0 : 0 ≤ ct) (hc1 : ct ≤ 100000) (hp : pl (d.S.length : Int) hh ct = .tuple #[.int .i64 a, .int .i64 0])
    (r1 r2 r3 : Int) (r4 r5 r6 : ByteArray) (r7 r8 : Int) (b : Bool) (hI : ∀ W : World, Tab W → Calls Tryz.prog 100 #[.string (d.rdS a), .int .i64 ep, .int .i64 ct] W fun e w' => e = .returned (.tuple #[.agg (recV r1 r2 r3 r4 r5 r6 r7 r8), .bool b]) ∧ Below W.heap.size W w') :
    Calls Tryz.prog 50 #[.pointer (some ⟨J, 0, none⟩)] w fun e w' => e = .returned (.tuple #[.agg (recV r1 r2 r3 r4 r5 r6 r7 r8), .bool b, .int .i64 (d.rdE a)]) ∧ JW n w0 D J (d.red a) hh ep ct w' ∧ Kd D w w' := by
  have hb0 : Below w.heap.size w (w.alloc (.cells #[.int .i64 0, .int .i64 0, .int .i64 0, .string ⟨#[]⟩, .string ⟨#[]⟩, .string ⟨#[]⟩, .int .i64 0, .int .i64 0] 42 (0, 0))) := (Below.refl _ _).alloc (Nat.le_refl _) _
  have HV := Lib.hid (h.below hb0)
  have hnr : ¬ InD D (w.alloc (.cells #[.int .i64 0, .int .i64 0, .int .i64 0, .string ⟨#[]⟩, .string ⟨#[]⟩, .string ⟨#[]⟩, .int .i64 0, .int .i64 0] 42 (0, 0))) w.heap.size := fun q => by have := h.dw.dk.new (q.back hb0 h.dw.lt); omega
  have HR : Hid (Bx D w.heap.size (.cells #[.int .i64 0, .int .i64 0, .int .i64 0, .string ⟨#[]⟩, .string ⟨#[]⟩, .string ⟨#[]⟩, .int .i64 0, .int .i64 0] 42 (0, 0)) (w.alloc (.cells #[.int .i64 0, .int .i64 0, .int .i64 0, .string ⟨#[]⟩, .string ⟨#[]⟩, .string ⟨#[]⟩, .int .i64 0, .int .i64 0] 42 (0, 0)))) := Lib.hid ⟨blk_new w _, hnr⟩
  have HK := Lib.hid (Kd.of_below hb0 h.dw.lt)
  have hJr : J ≠ w.heap.size := fun e => by have := lt_of_block h.bx; omega
  have hDr : D < w.heap.size := h.dw.lt
  have HPL := Lib.hid (fun (W : World) (q : JW n w0 D J d hh ep ct W) => jplace_any q ok.s2 ct a 0 (by omega) (by omega) hp)
  have HT := Lib.hid hT
  have HRD := Lib.hid (fun (W : World) (q : DW n w0 D d W) => pread q ok (by omega) a)
  have HIS := Lib.hid hI
  generalize d.rdS a = X at HRD HIS
  obtain ⟨z, hz⟩ : ∃ z, z = d.rdE a := ⟨_, rfl⟩
  obtain ⟨d2, hd2⟩ : ∃ x, x = d.red a := ⟨_, rfl⟩
  rw [← hz, ← hd2] at HRD ⊢
  unfold recV at HIS
  simp only [recV]
  obtain ⟨v, hv⟩ : ∃ v, v = w.alloc (.cells #[.int .i64 0, .int .i64 0, .int .i64 0, .string ⟨#[]⟩, .string ⟨#[]⟩, .string ⟨#[]⟩, .int .i64 0, .int .i64 0] 42 (0, 0)) := ⟨_, rfl⟩
  have HVV := Lib.hid hv
  rw [← hv] at HV HR HK
  have hwr := h.dw.sz
  clear h hp hb0 hnr hv ok hT hI hz hd2
  go_enter Tryz.func50, Tryz.ntmps50
  go_upto_region 1 with (fail)
  rw [← HVV.out]
  clear HVV
  generalize hrr : w.heap.size = rr at *
  have c3 := HV.out.c3
  go_wp2_with fail
  clear c3
  refine (HPL.out _ HV.out).mono ?_
  rintro e w1 ⟨rfl, hb⟩
  have HR := Lib.hid (HR.out.below hb HV.out.dw.lt)
  have HK := Lib.hid (HK.out.trans (Kd.of_below hb HV.out.dw.lt))
  have HV := Lib.hid (HV.out.below hb)
  clear hb HPL
  have c0 := HV.out.c0
  go_wp2_with fail
  clear c0
  refine (HRD.out _ HV.out.dw).mono ?_
  rintro e w2 ⟨rfl, hd, hk⟩
  have HR := Lib.hid (HR.out.kd hk)
  have HK := Lib.hid (HK.out.trans hk)
  have HV := Lib.hid (HV.out.kd hd hk)
  clear hd hk HRD
  go_upto_region 5 with (fail)
  have hbd : Below w2.heap.size w2 w2.drew := (Below.refl _ _).drew
  have HR := Lib.hid (HR.out.below hbd HV.out.dw.lt)
  have HK := Lib.hid (HK.out.trans (Kd.of_below hbd HV.out.dw.lt))
  have HV := Lib.hid (HV.out.below hbd)
  clear hbd
  refine wp_region_L_drew (S := fun _ W => W.heap[J]? = some (jnO D hh ep ct)) (by kernel_rfl) HV.out.bx (fun hS hC => ?_)
  generalize w2.drew = v0 at *
  have HB0 := Lib.hid (Below.refl v0.heap.size v0)
  refine wpAnyL_take (i := 0) (oi := { dst := some 32, op := .move (.tmp 7), type := _, pos := _, after := _, guard := none }) (v := ?_) rfl (by kernel_rfl) (by kernel_rfl) (by kernel_rfl) (fun _ _ _ h => h) (fun _ _ => Iff.rfl) hC (Or.inl ⟨by rfl, ?_⟩) (HV.out.below HB0.out).bx (fun hC hS => ?_)
  rotate_left
  · intro W9 hSw; skip; go_simp; try (with_reducible rfl)
  try simp only [Act.put, List.setIfInBounds_toArray, List.set_cons_zero, List.set_cons_succ]
  refine wpAnyL_take (i := 1) (oi := { dst := some 33, op := .move (.tmp 0), type := _, pos := _, after := _, guard := none }) (v := ?_) rfl (by kernel_rfl) (by kernel_rfl) (by kernel_rfl) (fun _ _ _ h => h) (fun _ _ => Iff.rfl) hC (Or.inl ⟨by rfl, ?_⟩) (HV.out.below HB0.out).bx (fun hC hS => ?_)
  rotate_left
  · intro W9 hSw; skip; go_simp; try (with_reducible rfl)
  try simp only [Act.put, List.setIfInBounds_toArray, List.set_cons_zero, List.set_cons_succ]
  refine wpAnyL_take (i := 2) (oi := { dst := some 34, op := .nilCheck (.tmp 33), type := _, pos := _, after := _, guard := none }) (v := ?_) rfl (by kernel_rfl) (by kernel_rfl) (by kernel_rfl) (fun _ _ _ h => h) (fun _ _ => Iff.rfl) hC (Or.inl ⟨by rfl, ?_⟩) (HV.out.below HB0.out).bx (fun hC hS => ?_)
  rotate_left
  · intro W9 hSw; skip; go_simp; try (with_reducible rfl)
  try simp only [Act.put, List.setIfInBounds_toArray, List.set_cons_zero, List.set_cons_succ]
  refine wpAnyL_take (i := 3) (oi := { dst := some 35, op := .fieldAddr 100 (.tmp 34) 2, type := _, pos := _, after := _, guard := none }) (v := ?_) rfl (by kernel_rfl) (by kernel_rfl) (by kernel_rfl) (fun _ _ _ h => h) (fun _ _ => Iff.rfl) hC (Or.inl ⟨by rfl, ?_⟩) (HV.out.below HB0.out).bx (fun hC hS => ?_)
  rotate_left
  · intro W9 hSw; skip; go_simp; try (with_reducible rfl)
  try simp only [Act.put, List.setIfInBounds_toArray, List.set_cons_zero, List.set_cons_succ]
  refine wpAnyL_take (i := 4) (oi := { dst := some 36, op := .load 3 (.tmp 35), type := _, pos := _, after := _, guard := none }) (v := ?_) rfl (by kernel_rfl) (by kernel_rfl) (by kernel_rfl) (fun _ _ _ h => h) (fun _ _ => Iff.rfl) hC (Or.inl ⟨by rfl, ?_⟩) (HV.out.below HB0.out).bx (fun hC hS => ?_)
  rotate_left
  · intro W9 hSw; have q0 := (cell_of_row _ _ 2 _ _ _ hSw.choose_spec.2.2).trans rfl; go_simp; try (with_reducible rfl)
  try simp only [Act.put, List.setIfInBounds_toArray, List.set_cons_zero, List.set_cons_succ]
  refine wpAnyL_take (i := 5) (oi := { dst := some 37, op := .move (.tmp 0), type := _, pos := _, after := _, guard := none }) (v := ?_) rfl (by kernel_rfl) (by kernel_rfl) (by kernel_rfl) (fun _ _ _ h => h) (fun _ _ => Iff.rfl) hC (Or.inl ⟨by rfl, ?_⟩) (HV.out.below HB0.out).bx (fun hC hS => ?_)
  rotate_left
  · intro W9 hSw; skip; go_simp; try (with_reducible rfl)
  try simp only [Act.put, List.setIfInBounds_toArray, List.set_cons_zero, List.set_cons_succ]
  refine wpAnyL_take (i := 6) (oi := { dst := some 38, op := .nilCheck (.tmp 37), type := _, pos := _, after := _, guard := none }) (v := ?_) rfl (by kernel_rfl) (by kernel_rfl) (by kernel_rfl) (fun _ _ _ h => h) (fun _ _ => Iff.rfl) hC (Or.inl ⟨by rfl, ?_⟩) (HV.out.below HB0.out).bx (fun hC hS => ?_)
  rotate_left
  · intro W9 hSw; skip; go_simp; try (with_reducible rfl)
  try simp only [Act.put, List.setIfInBounds_toArray, List.set_cons_zero, List.set_cons_succ]
  refine wpAnyL_take (i := 7) (oi := { dst := some 39, op := .fieldAddr 100 (.tmp 38) 3, type := _, pos := _, after := _, guard := none }) (v := ?_) rfl (by kernel_rfl) (by kernel_rfl) (by kernel_rfl) (fun _ _ _ h => h) (fun _ _ => Iff.rfl) hC (Or.inl ⟨by rfl, ?_⟩) (HV.out.below HB0.out).bx (fun hC hS => ?_)
  rotate_left
  · intro W9 hSw; skip; go_simp; try (with_reducible rfl)
  try simp only [Act.put, List.setIfInBounds_toArray, List.set_cons_zero, List.set_cons_succ]
  refine wpAnyL_take (i := 8) (oi := { dst := some 40, op := .load 3 (.tmp 39), type := _, pos := _, after := _, guard := none }) (v := ?_) rfl (by kernel_rfl) (by kernel_rfl) (by kernel_rfl) (fun _ _ _ h => h) (fun _ _ => Iff.rfl) hC (Or.inl ⟨by rfl, ?_⟩) (HV.out.below HB0.out).bx (fun hC hS => ?_)
  rotate_left
  · intro W9 hSw; have q0 := (cell_of_row _ _ 3 _ _ _ hSw.choose_spec.2.2).trans rfl; go_simp; try (with_reducible rfl)
  try simp only [Act.put, List.setIfInBounds_toArray, List.set_cons_zero, List.set_cons_succ]
  refine wpAnyL_ready (rs := [9, 13]) (by kernel_rfl) (by simp) hC ?_
  refine AllReadyL.cons (o := { dst := some 41, op := .call { callee := .value (.func 100), args := #[.tmp 32, .tmp 36, .tmp 40], argTypes := #[9, 3, 3] }, type := _, pos := _, after := _, guard := none }) rfl (fun K9 hK => ?_) ?_
  · skip
    go_simp
    refine (HIS.out _ (Tab.dwJ (HV.out.below HB0.out).dw HT.out hg)).mono ?_
    rintro e v1 ⟨rfl, hb⟩
    have HB1 := Lib.hid (HB0.out.trans (hb.mono HB0.out.size))
    clear hb
    refine hK _ _ (HV.out.below HB1.out).bx (fun hC => ?_)
    clear hK K9
    try simp only [Act.put, List.setIfInBounds_toArray, List.set_cons_zero, List.set_cons_succ]
    refine wpAnyL_take (i := 10) (oi := { dst := some 31, op := .move (.tmp 41), type := _, pos := _, after := _, guard := none }) (v := ?_) rfl (by kernel_rfl) (by kernel_rfl) (by kernel_rfl) (fun _ _ _ h => h) (fun _ _ => Iff.rfl) hC (Or.inl ⟨by rfl, ?_⟩) (HV.out.below HB1.out).bx (fun hC hS => ?_)
    rotate_left
    · intro W9 hSw; skip; go_simp; try (with_reducible rfl)
    try simp only [Act.put, List.setIfInBounds_toArray, List.set_cons_zero, List.set_cons_succ]
    refine wpAnyL_take (i := 11) (oi := { dst := some 42, op := .extract (.tmp 31) 0, type := _, pos := _, after := _, guard := none }) (v := ?_) rfl (by kernel_rfl) (by kernel_rfl) (by kernel_rfl) (fun _ _ _ h => h) (fun _ _ => Iff.rfl) hC (Or.inl ⟨by rfl, ?_⟩) (HV.out.below HB1.out).bx (fun hC hS => ?_)
    rotate_left
    · intro W9 hSw; skip; go_simp; try (with_reducible rfl)
    try simp only [Act.put, List.setIfInBounds_toArray, List.set_cons_zero, List.set_cons_succ]
    refine wpAnyL_take (i := 12) (oi := { dst := some 43, op := .extract (.tmp 31) 1, type := _, pos := _, after := _, guard := none }) (v := ?_) rfl (by kernel_rfl) (by kernel_rfl) (by kernel_rfl) (fun _ _ _ h => h) (fun _ _ => Iff.rfl) hC (Or.inl ⟨by rfl, ?_⟩) (HV.out.below HB1.out).bx (fun hC hS => ?_)
    rotate_left
    · intro W9 hSw; skip; go_simp; try (with_reducible rfl)
    try simp only [Act.put, List.setIfInBounds_toArray, List.set_cons_zero, List.set_cons_succ]
    refine wpAnyL_ready (rs := [13]) (by kernel_rfl) (by simp) hC ?_
    refine AllReadyL.cons (o := { dst := some 8, op := .alloc 42, type := _, pos := _, after := _, guard := none }) rfl (fun K9 hK => ?_) ?_
    · skip
      go_simp
      have hb : Below v0.heap.size v0 (v1.alloc (.cells #[.int .i64 0, .int .i64 0, .int .i64 0, .string ⟨#[]⟩, .string ⟨#[]⟩, .string ⟨#[]⟩, .int .i64 0, .int .i64 0] 42 (0, 0))) := HB1.out.alloc HB1.out.size _
      have hx := blk_new v1 (.cells #[.int .i64 0, .int .i64 0, .int .i64 0, .string ⟨#[]⟩, .string ⟨#[]⟩, .string ⟨#[]⟩, .int .i64 0, .int .i64 0] 42 (0, 0))
      have hp9 : v0.heap.size ≤ v1.heap.size := HB1.out.size
      generalize v1.alloc (.cells #[.int .i64 0, .int .i64 0, .int .i64 0, .string ⟨#[]⟩, .string ⟨#[]⟩, .string ⟨#[]⟩, .int .i64 0, .int .i64 0] 42 (0, 0)) = v2 at *
      generalize v1.heap.size = p9 at *
      have HB2 := Lib.hid hb
      have HX := Lib.hid hx
      clear hb hx
      refine hK _ _ (HV.out.below HB2.out).bx (fun hC => ?_)
      clear hK K9
      try simp only [Act.put, List.setIfInBounds_toArray, List.set_cons_zero, List.set_cons_succ]
      refine wpAnyL_ready (rs := [14]) (by kernel_rfl) (by simp) hC ?_
      refine AllReadyL.cons (o := { dst := none, op := .store 42 (.tmp 8) (.tmp 42), type := _, pos := _, after := _, guard := none }) rfl (fun K9 hK => ?_) ?_
      · skip
        refine step_storeJ rfl 42 (.tmp 8) (.tmp 42) rfl (p9) #[.int .i64 r1, .int .i64 r2, .int .i64 r3, .string r4, .string r5, .string r6, .int .i64 r7, .int .i64 r8] rfl rfl 42 _ HX.out (info_rec _ _ _ _ _ _ _ _) rfl (one_rec _ _ _ _ _ _ _ _) v0.heap.size v0 HB2.out (by omega) ?_
        intro v3 hk1 ho1 hb1
        refine hK _ _ (HV.out.below hb1.out).bx (fun hC => ?_)
        clear hK K9
        try simp only [Act.put, List.setIfInBounds_toArray, List.set_cons_zero, List.set_cons_succ]
        refine wpAnyL_take (i := 15) (oi := { dst := some 9, op := .assign (.tmp 43), type := _, pos := _, after := _, guard := none }) (v := ?_) rfl (by kernel_rfl) (by kernel_rfl) (by kernel_rfl) (fun _ _ _ h => h) (fun _ _ => Iff.rfl) hC (Or.inl ⟨by rfl, ?_⟩) (HV.out.below hb1.out).bx (fun hC hS => ?_)
        rotate_left
        · intro W9 hSw; skip; go_simp; try (with_reducible rfl)
        try simp only [Act.put, List.setIfInBounds_toArray, List.set_cons_zero, List.set_cons_succ]
        refine wpAnyL_done (by kernel_rfl) ?_ _
        clear hS hC ho1 HB0 HX
        have HK3 := Lib.hid (HK.out.trans (Kd.of_below hb1.out HV.out.dw.lt))
        have HR3 := Lib.hid (HR.out.below hb1.out HV.out.dw.lt)
        have HV3 := Lib.hid (HV.out.below hb1.out)
        clear HV HR HK
        have y0 : v3.cell? ⟨p9, 0, none⟩ = some (.int .i64 r1) := (cell_of_row _ _ 0 _ _ _ hk1.out).trans rfl
        have y1 : v3.cell? ⟨p9, 1, none⟩ = some (.int .i64 r2) := (cell_of_row _ _ 1 _ _ _ hk1.out).trans rfl
        have y2 : v3.cell? ⟨p9, 2, none⟩ = some (.int .i64 r3) := (cell_of_row _ _ 2 _ _ _ hk1.out).trans rfl
        have y3 : v3.cell? ⟨p9, 3, none⟩ = some (.string r4) := (cell_of_row _ _ 3 _ _ _ hk1.out).trans rfl
        have y4 : v3.cell? ⟨p9, 4, none⟩ = some (.string r5) := (cell_of_row _ _ 4 _ _ _ hk1.out).trans rfl
        have y5 : v3.cell? ⟨p9, 5, none⟩ = some (.string r6) := (cell_of_row _ _ 5 _ _ _ hk1.out).trans rfl
        have y6 : v3.cell? ⟨p9, 6, none⟩ = some (.int .i64 r7) := (cell_of_row _ _ 6 _ _ _ hk1.out).trans rfl
        have y7 : v3.cell? ⟨p9, 7, none⟩ = some (.int .i64 r8) := (cell_of_row _ _ 7 _ _ _ hk1.out).trans rfl
        go_wp2_with (first
          | refine wpList_store_rowY rfl 42 (.tmp 2) (.tmp 44) rfl rr #[.int .i64 r1, .int .i64 r2, .int .i64 r3, .string r4, .string r5, .string r6, .int .i64 r7, .int .i64 r8] rfl rfl 42 _ HR3.out.1 (info_rec _ _ _ _ _ _ _ _) rfl (one_rec _ _ _ _ _ _ _ _) rr v3 (Below.refl _ _) (Nat.le_refl _) ?_)
        intro W2 hbk hoth hbel _
        clear y0 y1 y2 y3 y4 y5 y6 y7
        have HKW : Hid (Kd D w W2) := Lib.hid (HK3.out.belowB (by rw [hrr]; exact hbel.out) (by rw [hrr]; exact hDr))
        have HVW : Hid (JW n w0 D J d2 hh ep ct W2) := Lib.hid (HV3.out.kk (g := rr) ⟨hbel.out.os, hbel.out.tape, hbel.out.output, hbel.out.size, fun b _ hn => hoth.out b (by simpa using hn)⟩ HR3.out.2 hwr hJr)
        have HBK := Lib.hid hbk.out
        clear hbk hoth hbel HK3 HV3 HR3
        go_wp2_with fail
        refine bodyPost_ret (results_cttJ rfl _ _ rr #[.int .i64 r1, .int .i64 r2, .int .i64 r3, .string r4, .string r5, .string r6, .int .i64 r7, .int .i64 r8] rfl (run_loadVar_row _ rr 42 42 _ (0, 0) _ HBK.out Tryz.underlying42 rfl (info_rec _ _ _ _ _ _ _ _))) rfl ?_
        exact ⟨rfl, HVW.out, HKW.out⟩
      exact AllReadyL.nil
    exact AllReadyL.nil
  refine AllReadyL.cons (o := { dst := some 8, op := .alloc 42, type := _, pos := _, after := _, guard := none }) rfl (fun K9 hK => ?_) ?_
  · skip
    go_simp
    have hb : Below v0.heap.size v0 (v0.alloc (.cells #[.int .i64 0, .int .i64 0, .int .i64 0, .string ⟨#[]⟩, .string ⟨#[]⟩, .string ⟨#[]⟩, .int .i64 0, .int .i64 0] 42 (0, 0))) := HB0.out.alloc HB0.out.size _
    have hx := blk_new v0 (.cells #[.int .i64 0, .int .i64 0, .int .i64 0, .string ⟨#[]⟩, .string ⟨#[]⟩, .string ⟨#[]⟩, .int .i64 0, .int .i64 0] 42 (0, 0))
    have hp9 : v0.heap.size ≤ v0.heap.size := HB0.out.size
    generalize v0.alloc (.cells #[.int .i64 0, .int .i64 0, .int .i64 0, .string ⟨#[]⟩, .string ⟨#[]⟩, .string ⟨#[]⟩, .int .i64 0, .int .i64 0] 42 (0, 0)) = v1 at *
    have HB1 := Lib.hid hb
    have HX := Lib.hid hx
    clear hb hx
    refine hK _ _ (HV.out.below HB1.out).bx (fun hC => ?_)
    clear hK K9
    try simp only [Act.put, List.setIfInBounds_toArray, List.set_cons_zero, List.set_cons_succ]
    refine wpAnyL_ready (rs := [9]) (by kernel_rfl) (by simp) hC ?_
    refine AllReadyL.cons (o := { dst := some 41, op := .call { callee := .value (.func 100), args := #[.tmp 32, .tmp 36, .tmp 40], argTypes := #[9, 3, 3] }, type := _, pos := _, after := _, guard := none }) rfl (fun K9 hK => ?_) ?_
    · skip
      go_simp
      refine (HIS.out _ (Tab.dwJ (HV.out.below HB1.out).dw HT.out hg)).mono ?_
      rintro e v2 ⟨rfl, hb⟩
      have HB2 := Lib.hid (HB1.out.trans (hb.mono HB1.out.size))
      have HX := Lib.hid (blk_below HX.out hb)
      clear hb
      refine hK _ _ (HV.out.below HB2.out).bx (fun hC => ?_)
      clear hK K9
      try simp only [Act.put, List.setIfInBounds_toArray, List.set_cons_zero, List.set_cons_succ]
      refine wpAnyL_take (i := 10) (oi := { dst := some 31, op := .move (.tmp 41), type := _, pos := _, after := _, guard := none }) (v := ?_) rfl (by kernel_rfl) (by kernel_rfl) (by kernel_rfl) (fun _ _ _ h => h) (fun _ _ => Iff.rfl) hC (Or.inl ⟨by rfl, ?_⟩) (HV.out.below HB2.out).bx (fun hC hS => ?_)
      rotate_left
      · intro W9 hSw; skip; go_simp; try (with_reducible rfl)
      try simp only [Act.put, List.setIfInBounds_toArray, List.set_cons_zero, List.set_cons_succ]
      refine wpAnyL_take (i := 11) (oi := { dst := some 42, op := .extract (.tmp 31) 0, type := _, pos := _, after := _, guard := none }) (v := ?_) rfl (by kernel_rfl) (by kernel_rfl) (by kernel_rfl) (fun _ _ _ h => h) (fun _ _ => Iff.rfl) hC (Or.inl ⟨by rfl, ?_⟩) (HV.out.below HB2.out).bx (fun hC hS => ?_)
      rotate_left
      · intro W9 hSw; skip; go_simp; try (with_reducible rfl)
      try simp only [Act.put, List.setIfInBounds_toArray, List.set_cons_zero, List.set_cons_succ]
      refine wpAnyL_take (i := 12) (oi := { dst := some 43, op := .extract (.tmp 31) 1, type := _, pos := _, after := _, guard := none }) (v := ?_) rfl (by kernel_rfl) (by kernel_rfl) (by kernel_rfl) (fun _ _ _ h => h) (fun _ _ => Iff.rfl) hC (Or.inl ⟨by rfl, ?_⟩) (HV.out.below HB2.out).bx (fun hC hS => ?_)
      rotate_left
      · intro W9 hSw; skip; go_simp; try (with_reducible rfl)
      try simp only [Act.put, List.setIfInBounds_toArray, List.set_cons_zero, List.set_cons_succ]
      refine wpAnyL_ready (rs := [14]) (by kernel_rfl) (by simp) hC ?_
      refine AllReadyL.cons (o := { dst := none, op := .store 42 (.tmp 8) (.tmp 42), type := _, pos := _, after := _, guard := none }) rfl (fun K9 hK => ?_) ?_
      · skip
        refine step_storeJ rfl 42 (.tmp 8) (.tmp 42) rfl (v0.heap.size) #[.int .i64 r1, .int .i64 r2, .int .i64 r3, .string r4, .string r5, .string r6, .int .i64 r7, .int .i64 r8] rfl rfl 42 _ HX.out (info_rec _ _ _ _ _ _ _ _) rfl (one_rec _ _ _ _ _ _ _ _) v0.heap.size v0 HB2.out (by omega) ?_
        intro v3 hk1 ho1 hb1
        refine hK _ _ (HV.out.below hb1.out).bx (fun hC => ?_)
        clear hK K9
        try simp only [Act.put, List.setIfInBounds_toArray, List.set_cons_zero, List.set_cons_succ]
        refine wpAnyL_take (i := 15) (oi := { dst := some 9, op := .assign (.tmp 43), type := _, pos := _, after := _, guard := none }) (v := ?_) rfl (by kernel_rfl) (by kernel_rfl) (by kernel_rfl) (fun _ _ _ h => h) (fun _ _ => Iff.rfl) hC (Or.inl ⟨by rfl, ?_⟩) (HV.out.below hb1.out).bx (fun hC hS => ?_)
        rotate_left
        · intro W9 hSw; skip; go_simp; try (with_reducible rfl)
        try simp only [Act.put, List.setIfInBounds_toArray, List.set_cons_zero, List.set_cons_succ]
        refine wpAnyL_done (by kernel_rfl) ?_ _
        clear hS hC ho1 HB0 HX
        have HK3 := Lib.hid (HK.out.trans (Kd.of_below hb1.out HV.out.dw.lt))
        have HR3 := Lib.hid (HR.out.below hb1.out HV.out.dw.lt)
        have HV3 := Lib.hid (HV.out.below hb1.out)
        clear HV HR HK
        have y0 : v3.cell? ⟨v0.heap.size, 0, none⟩ = some (.int .i64 r1) := (cell_of_row _ _ 0 _ _ _ hk1.out).trans rfl
        have y1 : v3.cell? ⟨v0.heap.size, 1, none⟩ = some (.int .i64 r2) := (cell_of_row _ _ 1 _ _ _ hk1.out).trans rfl
        have y2 : v3.cell? ⟨v0.heap.size, 2, none⟩ = some (.int .i64 r3) := (cell_of_row _ _ 2 _ _ _ hk1.out).trans rfl
        have y3 : v3.cell? ⟨v0.heap.size, 3, none⟩ = some (.string r4) := (cell_of_row _ _ 3 _ _ _ hk1.out).trans rfl
        have y4 : v3.cell? ⟨v0.heap.size, 4, none⟩ = some (.string r5) := (cell_of_row _ _ 4 _ _ _ hk1.out).trans rfl
        have y5 : v3.cell? ⟨v0.heap.size, 5, none⟩ = some (.string r6) := (cell_of_row _ _ 5 _ _ _ hk1.out).trans rfl
        have y6 : v3.cell? ⟨v0.heap.size, 6, none⟩ = some (.int .i64 r7) := (cell_of_row _ _ 6 _ _ _ hk1.out).trans rfl
        have y7 : v3.cell? ⟨v0.heap.size, 7, none⟩ = some (.int .i64 r8) := (cell_of_row _ _ 7 _ _ _ hk1.out).trans rfl
        go_wp2_with (first
          | refine wpList_store_rowY rfl 42 (.tmp 2) (.tmp 44) rfl rr #[.int .i64 r1, .int .i64 r2, .int .i64 r3, .string r4, .string r5, .string r6, .int .i64 r7, .int .i64 r8] rfl rfl 42 _ HR3.out.1 (info_rec _ _ _ _ _ _ _ _) rfl (one_rec _ _ _ _ _ _ _ _) rr v3 (Below.refl _ _) (Nat.le_refl _) ?_)
        intro W2 hbk hoth hbel _
        clear y0 y1 y2 y3 y4 y5 y6 y7
        have HKW : Hid (Kd D w W2) := Lib.hid (HK3.out.belowB (by rw [hrr]; exact hbel.out) (by rw [hrr]; exact hDr))
        have HVW : Hid (JW n w0 D J d2 hh ep ct W2) := Lib.hid (HV3.out.kk (g := rr) ⟨hbel.out.os, hbel.out.tape, hbel.out.output, hbel.out.size, fun b _ hn => hoth.out b (by simpa using hn)⟩ HR3.out.2 hwr hJr)
        have HBK := Lib.hid hbk.out
        clear hbk hoth hbel HK3 HV3 HR3
        go_wp2_with fail
        refine bodyPost_ret (results_cttJ rfl _ _ rr #[.int .i64 r1, .int .i64 r2, .int .i64 r3, .string r4, .string r5, .string r6, .int .i64 r7, .int .i64 r8] rfl (run_loadVar_row _ rr 42 42 _ (0, 0) _ HBK.out Tryz.underlying42 rfl (info_rec _ _ _ _ _ _ _ _))) rfl ?_
        exact ⟨rfl, HVW.out, HKW.out⟩
      exact AllReadyL.nil
    exact AllReadyL.nil
  exact AllReadyL.nil
end
end Go.Proofs.YtiflieaemgamkaaGreatDoor

namespace Go.Proofs.YtiflieaemgamkaaGreatDoor
open Go.RowKit Vi Ar Cm

/-- only a disk's own blocks and a journal's box have turned -/
structure Kj (D J : Nat) (w w' : World) : Prop where
  os : w'.os = w.os
  tape : w'.tape = w.tape
  output : w'.output = w.output
  size : w.heap.size ≤ w'.heap.size
  block : ∀ b, b < w.heap.size → ¬ InD D w b → b ≠ J → w'.heap[b]? = w.heap[b]?
  ind : ∀ b, b < w.heap.size → InD D w' b → InD D w b
theorem Kd.kj {D J : Nat} {w w' : World} (h : Kd D w w') : Kj D J w w' := ⟨h.os, h.tape, h.output, h.size, fun b q hn _ => h.block b q hn, h.ind⟩
theorem Kj.trans {D J : Nat} {a b c : World} (h : Kj D J a b) (k : Kj D J b c) : Kj D J a c :=
  ⟨k.os.trans h.os, k.tape.trans h.tape, k.output.trans h.output, Nat.le_trans h.size k.size, fun i hi hn hJ => (k.block i (Nat.lt_of_lt_of_le hi h.size) (fun q => hn (h.ind i hi q)) hJ).trans (h.block i hi hn hJ), fun i hi q => h.ind i hi (k.ind i (Nat.lt_of_lt_of_le hi h.size) q)⟩
theorem Kj.of_kk {D J : Nat} {w w' : World} (k : KK [J] w w') (hD : D < w.heap.size) (hDJ : D ≠ J) : Kj D J w w' :=
  ⟨k.os, k.tape, k.output, k.size, fun b q _ hJ => k.block b q (by simpa using hJ), fun _ _ q => q.kkM k hD hDJ⟩
section
variable {n : Nat} {w0 : World} {D J : Nat} {d : Ds} {hf ep ct : Int} {w : World} {k0 : Nat}
def jcE (z ct : Int) : Int := if z = 0 then ct + 1 else ct
/-- what Append leaves -/
def ApP (n : Nat) (w0 : World) (D J : Nat) (d : Ds) (hf ep ct z : Int) (w : World) (e : Ending) (w' : World) : Prop := e = .returned (.int .i64 z) ∧ JW n w0 D J d hf ep ct w' ∧ Kj D J w w'
set_option maxRecDepth 100000 in
set_option maxHeartbeats 8000000 in
set_option linter.unusedSimpArgs false in
theorem jap_no (h : JW n w0 D J d hf ep ct w) (ok : DsOk k0 d) (_hk0 : k0 ≤ 890) (hT : Tab w) (e0 s0 k : Int) (x o y : ByteArray) (t u : Int) (hx : x.size ≤ maxLen) (hr : rok ep ct k x o y t u = false) (hc0 : 0 ≤ ct) (hc1 : ct ≤ 100000) :
    Calls Tryz.prog 17 #[.pointer (some ⟨J, 0, none⟩), .agg #[.int .i64 e0, .int .i64 s0, .int .i64 k, .string x, .string o, .string y, .int .i64 t, .int .i64 u]] w (ApP n w0 D J d hf ep ct 2 w) := by
  have hb0 : Below w.heap.size w (w.alloc (.cells #[.int .i64 e0, .int .i64 s0, .int .i64 k, .string x, .string o, .string y, .int .i64 t, .int .i64 u] 42 (0, 0))) := (Below.refl _ _).alloc (Nat.le_refl _) _
  have HV := Lib.hid (h.below hb0)
  have HF := Lib.hid (blk_new w (.cells #[.int .i64 e0, .int .i64 s0, .int .i64 k, .string x, .string o, .string y, .int .i64 t, .int .i64 u] 42 (0, 0)))
  have HB := Lib.hid hb0
  have hnr : ¬ InD D (w.alloc (.cells #[.int .i64 e0, .int .i64 s0, .int .i64 k, .string x, .string o, .string y, .int .i64 t, .int .i64 u] 42 (0, 0))) w.heap.size := fun q => by have := h.dw.dk.new (q.back hb0 h.dw.lt); omega
  have HNR := Lib.hid hnr
  have hrn := h.dw.sz
  have hDr : D < w.heap.size := h.dw.lt
  have hDJ : D ≠ J := fun e => h.nl (.inl e.symm)
  have hJr : J ≠ w.heap.size := fun e => by have := lt_of_block h.bx; omega
  have HT := Lib.hid hT
  have HRK := Lib.hid hr
  have hl1 : d.S.length ≤ 4096 := ok.s2
  have ew : IntKind.i64.wrap (ct + 1) = ct + 1 := IntWalk.i64_in _ (by omega)
  obtain ⟨v, hv⟩ : ∃ v, v = w.alloc (.cells #[.int .i64 e0, .int .i64 s0, .int .i64 k, .string x, .string o, .string y, .int .i64 t, .int .i64 u] 42 (0, 0)) := ⟨_, rfl⟩
  have HVV := Lib.hid hv
  rw [← hv] at HV HF HB HNR
  have HMD := Lib.hid (jmade_any HV.out)
  clear h ok hT hr hb0 hnr hv
  go_enter Tryz.func17, Tryz.ntmps17
  go_upto_region 1 with (fail)
  rw [← HVV.out]
  clear HVV
  generalize hrr : w.heap.size = r at *
  go_wp2_with fail
  refine HMD.out.mono ?_
  rintro e w' ⟨rfl, rfl⟩
  clear HMD
  go_upto_region 3 with (fail)
  have HV := Lib.hid (HV.out.below (Below.refl _ _).drew)
  have HF := Lib.hid (show v.drew.heap[r]? = some (.cells #[.int .i64 e0, .int .i64 s0, .int .i64 k, .string x, .string o, .string y, .int .i64 t, .int .i64 u] 42 (0, 0)) from HF.out)
  have HNR : Hid (¬ InD D v.drew r) := Lib.hid (fun q => HNR.out q)
  have HB := Lib.hid HB.out.drew
  refine wp_region_L_drew (S := fun _ W => W.heap[J]? = some (jnO D hf ep ct)) (by kernel_rfl) HV.out.bx (fun hS hC => ?_)
  generalize v.drew = v0 at *
  refine wpAnyL_take (i := 0) (oi := { dst := some 14, op := .move (.tmp 0), type := _, pos := _, after := _, guard := none }) (v := ?_) rfl (by kernel_rfl) (by kernel_rfl) (by kernel_rfl) (fun _ _ _ h => h) (fun _ _ => Iff.rfl) hC (Or.inl ⟨by rfl, ?_⟩) HV.out.bx (fun hC hS => ?_)
  rotate_left
  · intro W9 hSw; skip; go_simp; try (with_reducible rfl)
  try simp only [Act.put, List.setIfInBounds_toArray, List.set_cons_zero, List.set_cons_succ]
  refine wpAnyL_take (i := 1) (oi := { dst := some 15, op := .nilCheck (.tmp 14), type := _, pos := _, after := _, guard := none }) (v := ?_) rfl (by kernel_rfl) (by kernel_rfl) (by kernel_rfl) (fun _ _ _ h => h) (fun _ _ => Iff.rfl) hC (Or.inl ⟨by rfl, ?_⟩) HV.out.bx (fun hC hS => ?_)
  rotate_left
  · intro W9 hSw; skip; go_simp; try (with_reducible rfl)
  try simp only [Act.put, List.setIfInBounds_toArray, List.set_cons_zero, List.set_cons_succ]
  refine wpAnyL_take (i := 2) (oi := { dst := some 16, op := .fieldAddr 100 (.tmp 15) 2, type := _, pos := _, after := _, guard := none }) (v := ?_) rfl (by kernel_rfl) (by kernel_rfl) (by kernel_rfl) (fun _ _ _ h => h) (fun _ _ => Iff.rfl) hC (Or.inl ⟨by rfl, ?_⟩) HV.out.bx (fun hC hS => ?_)
  rotate_left
  · intro W9 hSw; skip; go_simp; try (with_reducible rfl)
  try simp only [Act.put, List.setIfInBounds_toArray, List.set_cons_zero, List.set_cons_succ]
  refine wpAnyL_take (i := 3) (oi := { dst := some 17, op := .load 3 (.tmp 16), type := _, pos := _, after := _, guard := none }) (v := ?_) rfl (by kernel_rfl) (by kernel_rfl) (by kernel_rfl) (fun _ _ _ h => h) (fun _ _ => Iff.rfl) hC (Or.inl ⟨by rfl, ?_⟩) HV.out.bx (fun hC hS => ?_)
  rotate_left
  · intro W9 hSw; have q0 := (cell_of_row _ _ 2 _ _ _ hSw.choose_spec.2.2).trans rfl; go_simp; try (with_reducible rfl)
  try simp only [Act.put, List.setIfInBounds_toArray, List.set_cons_zero, List.set_cons_succ]
  refine wpAnyL_take (i := 4) (oi := { dst := some 18, op := .move (.tmp 0), type := _, pos := _, after := _, guard := none }) (v := ?_) rfl (by kernel_rfl) (by kernel_rfl) (by kernel_rfl) (fun _ _ _ h => h) (fun _ _ => Iff.rfl) hC (Or.inl ⟨by rfl, ?_⟩) HV.out.bx (fun hC hS => ?_)
  rotate_left
  · intro W9 hSw; skip; go_simp; try (with_reducible rfl)
  try simp only [Act.put, List.setIfInBounds_toArray, List.set_cons_zero, List.set_cons_succ]
  refine wpAnyL_take (i := 5) (oi := { dst := some 19, op := .nilCheck (.tmp 18), type := _, pos := _, after := _, guard := none }) (v := ?_) rfl (by kernel_rfl) (by kernel_rfl) (by kernel_rfl) (fun _ _ _ h => h) (fun _ _ => Iff.rfl) hC (Or.inl ⟨by rfl, ?_⟩) HV.out.bx (fun hC hS => ?_)
  rotate_left
  · intro W9 hSw; skip; go_simp; try (with_reducible rfl)
  try simp only [Act.put, List.setIfInBounds_toArray, List.set_cons_zero, List.set_cons_succ]
  refine wpAnyL_take (i := 6) (oi := { dst := some 20, op := .fieldAddr 100 (.tmp 19) 3, type := _, pos := _, after := _, guard := none }) (v := ?_) rfl (by kernel_rfl) (by kernel_rfl) (by kernel_rfl) (fun _ _ _ h => h) (fun _ _ => Iff.rfl) hC (Or.inl ⟨by rfl, ?_⟩) HV.out.bx (fun hC hS => ?_)
  rotate_left
  · intro W9 hSw; skip; go_simp; try (with_reducible rfl)
  try simp only [Act.put, List.setIfInBounds_toArray, List.set_cons_zero, List.set_cons_succ]
  refine wpAnyL_take (i := 7) (oi := { dst := some 21, op := .load 3 (.tmp 20), type := _, pos := _, after := _, guard := none }) (v := ?_) rfl (by kernel_rfl) (by kernel_rfl) (by kernel_rfl) (fun _ _ _ h => h) (fun _ _ => Iff.rfl) hC (Or.inl ⟨by rfl, ?_⟩) HV.out.bx (fun hC hS => ?_)
  rotate_left
  · intro W9 hSw; have q0 := (cell_of_row _ _ 3 _ _ _ hSw.choose_spec.2.2).trans rfl; go_simp; try (with_reducible rfl)
  try simp only [Act.put, List.setIfInBounds_toArray, List.set_cons_zero, List.set_cons_succ]
  refine wpAnyL_take (i := 8) (oi := { dst := some 22, op := .fieldAddr 42 (.tmp 3) 0, type := _, pos := _, after := _, guard := none }) (v := ?_) rfl (by kernel_rfl) (by kernel_rfl) (by kernel_rfl) (fun _ _ _ h => h) (fun _ _ => Iff.rfl) hC (Or.inl ⟨by rfl, ?_⟩) HV.out.bx (fun hC hS => ?_)
  rotate_left
  · intro W9 hSw; skip; go_simp; try (with_reducible rfl)
  try simp only [Act.put, List.setIfInBounds_toArray, List.set_cons_zero, List.set_cons_succ]
  refine wpAnyL_ready (rs := [9]) (by kernel_rfl) (by simp) hC ?_
  refine AllReadyL.cons (o := { dst := none, op := .store 3 (.tmp 22) (.tmp 17), type := _, pos := _, after := _, guard := none }) rfl (fun K9 hK => ?_) ?_
  · skip
    have y0 : v0.cell? ⟨r, 0, none⟩ = some (.int .i64 e0) := (cell_of_row _ _ 0 _ _ _ HF.out).trans rfl
    have z0 : v0.frozen? ⟨r, 0, none⟩ = false := frozen_of_row _ _ _ _ _ HF.out
    go_simp
    clear y0 z0
    have HF1 : Hid ((v0.setCell ⟨r, 0, none⟩ (.int .i64 ep)).heap[r]? = some (.cells #[.int .i64 ep, .int .i64 s0, .int .i64 k, .string x, .string o, .string y, .int .i64 t, .int .i64 u] 42 (0, 0))) := Lib.hid (by have q := heap_setCell_at (i := 0) (u := .int .i64 ep) HF.out; exact q)
    have HK1 := Lib.hid ((KK.refl [r] v0).set (b := r) (by simp) 0 (.int .i64 ep))
    refine hK _ _ (HK1.out.blk HV.out.bx (by simpa using hJr)) (fun hC => ?_)
    clear hK K9
    try simp only [Act.put, List.setIfInBounds_toArray, List.set_cons_zero, List.set_cons_succ]
    refine wpAnyL_take (i := 10) (oi := { dst := some 23, op := .fieldAddr 42 (.tmp 3) 1, type := _, pos := _, after := _, guard := none }) (v := ?_) rfl (by kernel_rfl) (by kernel_rfl) (by kernel_rfl) (fun _ _ _ h => h) (fun _ _ => Iff.rfl) hC (Or.inl ⟨by rfl, ?_⟩) (HK1.out.blk HV.out.bx (by simpa using hJr)) (fun hC hS => ?_)
    rotate_left
    · intro W9 hSw; skip; go_simp; try (with_reducible rfl)
    try simp only [Act.put, List.setIfInBounds_toArray, List.set_cons_zero, List.set_cons_succ]
    refine wpAnyL_ready (rs := [11]) (by kernel_rfl) (by simp) hC ?_
    refine AllReadyL.cons (o := { dst := none, op := .store 3 (.tmp 23) (.tmp 21), type := _, pos := _, after := _, guard := none }) rfl (fun K9 hK => ?_) ?_
    · skip
      have y0 : (v0.setCell ⟨r, 0, none⟩ (.int .i64 ep)).cell? ⟨r, 1, none⟩ = some (.int .i64 s0) := (cell_of_row _ _ 1 _ _ _ HF1.out).trans rfl
      have z0 : (v0.setCell ⟨r, 0, none⟩ (.int .i64 ep)).frozen? ⟨r, 1, none⟩ = false := frozen_of_row _ _ _ _ _ HF1.out
      go_simp
      clear y0 z0
      have HF2 : Hid (((v0.setCell ⟨r, 0, none⟩ (.int .i64 ep)).setCell ⟨r, 1, none⟩ (.int .i64 ct)).heap[r]? = some (.cells #[.int .i64 ep, .int .i64 ct, .int .i64 k, .string x, .string o, .string y, .int .i64 t, .int .i64 u] 42 (0, 0))) := Lib.hid (by have q := heap_setCell_at (i := 1) (u := .int .i64 ct) HF1.out; exact q)
      have HK2 := Lib.hid (HK1.out.set (b := r) (by simp) 1 (.int .i64 ct))
      refine hK _ _ (HK2.out.blk HV.out.bx (by simpa using hJr)) (fun hC => ?_)
      clear hK K9
      try simp only [Act.put, List.setIfInBounds_toArray, List.set_cons_zero, List.set_cons_succ]
      refine wpAnyL_done (by kernel_rfl) ?_ _
      clear hS hC
      have HV2 := Lib.hid (HV.out.kk HK2.out HNR.out hrn hJr)
      have HB2 : Hid (Below r w ((v0.setCell ⟨r, 0, none⟩ (.int .i64 ep)).setCell ⟨r, 1, none⟩ (.int .i64 ct))) := Lib.hid (HK2.out.below HB.out (fun b hb => by have e : b = r := (by simpa using hb); omega) (by have := HB.out.size; omega))
      have HT2 := Lib.hid (HT.out.later (by rw [hrr]; exact HB2.out))
      have HQ : Hid (Kd D w ((v0.setCell ⟨r, 0, none⟩ (.int .i64 ep)).setCell ⟨r, 1, none⟩ (.int .i64 ct))) := Lib.hid (Kd.of_below (by rw [hrr]; exact HB2.out) (by rw [hrr]; exact hDr))
      clear HV HB HB2 HF HF1 HK1 HK2 HNR HT
      have HV := Lib.hid HV2.out
      clear HV2
      generalize ((v0.setCell ⟨r, 0, none⟩ (.int .i64 ep)).setCell ⟨r, 1, none⟩ (.int .i64 ct)) = v1 at *
      have y0 : v1.cell? ⟨r, 0, none⟩ = _ := (cell_of_row _ _ 0 _ _ _ HF2.out).trans rfl
      have y1 : v1.cell? ⟨r, 1, none⟩ = _ := (cell_of_row _ _ 1 _ _ _ HF2.out).trans rfl
      have y2 : v1.cell? ⟨r, 2, none⟩ = _ := (cell_of_row _ _ 2 _ _ _ HF2.out).trans rfl
      have y3 : v1.cell? ⟨r, 3, none⟩ = _ := (cell_of_row _ _ 3 _ _ _ HF2.out).trans rfl
      have y4 : v1.cell? ⟨r, 4, none⟩ = _ := (cell_of_row _ _ 4 _ _ _ HF2.out).trans rfl
      have y5 : v1.cell? ⟨r, 5, none⟩ = _ := (cell_of_row _ _ 5 _ _ _ HF2.out).trans rfl
      have y6 : v1.cell? ⟨r, 6, none⟩ = _ := (cell_of_row _ _ 6 _ _ _ HF2.out).trans rfl
      have y7 : v1.cell? ⟨r, 7, none⟩ = _ := (cell_of_row _ _ 7 _ _ _ HF2.out).trans rfl
      go_wp2_with fail
      clear y0 y1 y2 y3 y4 y5 y6 y7 HF2
      refine (erput_no ep ct k x o y t u v1 hx HRK.out).mono ?_
      rintro e w1 ⟨rfl, hb⟩
      have HQ := Lib.hid (HQ.out.trans (Kd.of_below hb HV.out.dw.lt))
      have HV := Lib.hid (HV.out.below hb)
      clear hb
      go_wp2_with fail
      go_ret
      exact ⟨rfl, HV.out, HQ.out.kj⟩
    exact AllReadyL.nil
  exact AllReadyL.nil
set_option maxRecDepth 100000 in
set_option maxHeartbeats 8000000 in
set_option linter.unusedSimpArgs false in
theorem jap_yes (h : JW n w0 D J d hf ep ct w) (ok : DsOk k0 d) (hk0 : k0 ≤ 890) (hT : Tab w) (e0 s0 k : Int) (x o y : ByteArray) (t u : Int) (a1 a2 : Int) (hr : rok ep ct k x o y t u = true) (h1 : pl (d.S.length : Int) hf (ct + 1) = .tuple #[.int .i64 a1, .int .i64 0]) (h2 : pl (d.S.length : Int) hf ct = .tuple #[.int .i64 a2, .int .i64 0]) (hc0 : 0 ≤ ct) (hc1 : ct ≤ 100000) :
    Calls Tryz.prog 17 #[.pointer (some ⟨J, 0, none⟩), .agg #[.int .i64 e0, .int .i64 s0, .int .i64 k, .string x, .string o, .string y, .int .i64 t, .int .i64 u]] w (ApP n w0 D J (japS d a1 a2 ep ct k x o y t u).1 hf ep (jcE (japS d a1 a2 ep ct k x o y t u).2 ct) (japS d a1 a2 ep ct k x o y t u).2 w) := by
  obtain ⟨Z, hZ⟩ : ∃ Z, Z = japS d a1 a2 ep ct k x o y t u := ⟨_, rfl⟩
  rw [← hZ]
  obtain ⟨cc, hcc⟩ : ∃ cc, cc = jcE Z.2 ct := ⟨_, rfl⟩
  rw [← hcc]
  have HCC := Lib.hid hcc
  clear hcc
  have hb0 : Below w.heap.size w (w.alloc (.cells #[.int .i64 e0, .int .i64 s0, .int .i64 k, .string x, .string o, .string y, .int .i64 t, .int .i64 u] 42 (0, 0))) := (Below.refl _ _).alloc (Nat.le_refl _) _
  have HV := Lib.hid (h.below hb0)
  have HF := Lib.hid (blk_new w (.cells #[.int .i64 e0, .int .i64 s0, .int .i64 k, .string x, .string o, .string y, .int .i64 t, .int .i64 u] 42 (0, 0)))
  have HB := Lib.hid hb0
  have hnr : ¬ InD D (w.alloc (.cells #[.int .i64 e0, .int .i64 s0, .int .i64 k, .string x, .string o, .string y, .int .i64 t, .int .i64 u] 42 (0, 0))) w.heap.size := fun q => by have := h.dw.dk.new (q.back hb0 h.dw.lt); omega
  have HNR := Lib.hid hnr
  have hrn := h.dw.sz
  have hDr : D < w.heap.size := h.dw.lt
  have hDJ : D ≠ J := fun e => h.nl (.inl e.symm)
  have hJr : J ≠ w.heap.size := fun e => by have := lt_of_block h.bx; omega
  have HT := Lib.hid hT
  have HRK := Lib.hid hr
  have hl1 : d.S.length ≤ 4096 := ok.s2
  have ew : IntKind.i64.wrap (ct + 1) = ct + 1 := IntWalk.i64_in _ (by omega)
  have HP1 := Lib.hid (fun (W : World) (q : JW n w0 D J d hf ep ct W) => jplace_any q hl1 (ct + 1) a1 0 (by omega) (by omega) h1)
  have HP2 := Lib.hid (fun (W : World) (q : JW n w0 D J d hf ep ct W) => jplace_any q hl1 ct a2 0 (by omega) (by omega) h2)
  have HRP := Lib.hid (fun W : World => Tryz.strings_Repeat ⟨#[0]⟩ 128 W (by omega) (by show 1 * 128 ≤ _; omega))
  have HREP := Lib.hid repJ
  have HST := Lib.hid (fun (W : World) (B c p1 p2 : Nat) (q : JW n w0 D J d hf ep ct W) (g1 : WrB D J p1 a1 noZ W) (g2 : WrB D J p2 a2 (recS ep ct k x o y t u) W) (gB : Bx D B (.cells #[wrF p1, flF D, wrF p2, flF D] 61 (0, 0)) W) => (by have y := jsteps_any B c p1 p2 (a1, noZ) (a2, recS ep ct k x o y t u) q ok hk0 g1 g2 gB; rw [hZ]; exact y : Calls Tryz.prog 53 #[.slice (some ⟨B, 0, none⟩) 4 c] W fun e w' => e = .returned (.int .i64 Z.2) ∧ JW n w0 D J Z.1 hf ep ct w' ∧ Kd D W w'))
  obtain ⟨v, hv⟩ : ∃ v, v = w.alloc (.cells #[.int .i64 e0, .int .i64 s0, .int .i64 k, .string x, .string o, .string y, .int .i64 t, .int .i64 u] 42 (0, 0)) := ⟨_, rfl⟩
  have HVV := Lib.hid hv
  rw [← hv] at HV HF HB HNR
  have HMD := Lib.hid (jmade_any HV.out)
  clear h ok hT hr hb0 hnr hv h1 h2 hZ
  go_enter Tryz.func17, Tryz.ntmps17
  go_upto_region 1 with (fail)
  rw [← HVV.out]
  clear HVV
  generalize hrr : w.heap.size = r at *
  go_wp2_with fail
  refine HMD.out.mono ?_
  rintro e w' ⟨rfl, rfl⟩
  clear HMD
  go_upto_region 3 with (fail)
  have HV := Lib.hid (HV.out.below (Below.refl _ _).drew)
  have HF := Lib.hid (show v.drew.heap[r]? = some (.cells #[.int .i64 e0, .int .i64 s0, .int .i64 k, .string x, .string o, .string y, .int .i64 t, .int .i64 u] 42 (0, 0)) from HF.out)
  have HNR : Hid (¬ InD D v.drew r) := Lib.hid (fun q => HNR.out q)
  have HB := Lib.hid HB.out.drew
  refine wp_region_L_drew (S := fun _ W => W.heap[J]? = some (jnO D hf ep ct)) (by kernel_rfl) HV.out.bx (fun hS hC => ?_)
  generalize v.drew = v0 at *
  refine wpAnyL_take (i := 0) (oi := { dst := some 14, op := .move (.tmp 0), type := _, pos := _, after := _, guard := none }) (v := ?_) rfl (by kernel_rfl) (by kernel_rfl) (by kernel_rfl) (fun _ _ _ h => h) (fun _ _ => Iff.rfl) hC (Or.inl ⟨by rfl, ?_⟩) HV.out.bx (fun hC hS => ?_)
  rotate_left
  · intro W9 hSw; skip; go_simp; try (with_reducible rfl)
  try simp only [Act.put, List.setIfInBounds_toArray, List.set_cons_zero, List.set_cons_succ]
  refine wpAnyL_take (i := 1) (oi := { dst := some 15, op := .nilCheck (.tmp 14), type := _, pos := _, after := _, guard := none }) (v := ?_) rfl (by kernel_rfl) (by kernel_rfl) (by kernel_rfl) (fun _ _ _ h => h) (fun _ _ => Iff.rfl) hC (Or.inl ⟨by rfl, ?_⟩) HV.out.bx (fun hC hS => ?_)
  rotate_left
  · intro W9 hSw; skip; go_simp; try (with_reducible rfl)
  try simp only [Act.put, List.setIfInBounds_toArray, List.set_cons_zero, List.set_cons_succ]
  refine wpAnyL_take (i := 2) (oi := { dst := some 16, op := .fieldAddr 100 (.tmp 15) 2, type := _, pos := _, after := _, guard := none }) (v := ?_) rfl (by kernel_rfl) (by kernel_rfl) (by kernel_rfl) (fun _ _ _ h => h) (fun _ _ => Iff.rfl) hC (Or.inl ⟨by rfl, ?_⟩) HV.out.bx (fun hC hS => ?_)
  rotate_left
  · intro W9 hSw; skip; go_simp; try (with_reducible rfl)
  try simp only [Act.put, List.setIfInBounds_toArray, List.set_cons_zero, List.set_cons_succ]
  refine wpAnyL_take (i := 3) (oi := { dst := some 17, op := .load 3 (.tmp 16), type := _, pos := _, after := _, guard := none }) (v := ?_) rfl (by kernel_rfl) (by kernel_rfl) (by kernel_rfl) (fun _ _ _ h => h) (fun _ _ => Iff.rfl) hC (Or.inl ⟨by rfl, ?_⟩) HV.out.bx (fun hC hS => ?_)
  rotate_left
  · intro W9 hSw; have q0 := (cell_of_row _ _ 2 _ _ _ hSw.choose_spec.2.2).trans rfl; go_simp; try (with_reducible rfl)
  try simp only [Act.put, List.setIfInBounds_toArray, List.set_cons_zero, List.set_cons_succ]
  refine wpAnyL_take (i := 4) (oi := { dst := some 18, op := .move (.tmp 0), type := _, pos := _, after := _, guard := none }) (v := ?_) rfl (by kernel_rfl) (by kernel_rfl) (by kernel_rfl) (fun _ _ _ h => h) (fun _ _ => Iff.rfl) hC (Or.inl ⟨by rfl, ?_⟩) HV.out.bx (fun hC hS => ?_)
  rotate_left
  · intro W9 hSw; skip; go_simp; try (with_reducible rfl)
  try simp only [Act.put, List.setIfInBounds_toArray, List.set_cons_zero, List.set_cons_succ]
  refine wpAnyL_take (i := 5) (oi := { dst := some 19, op := .nilCheck (.tmp 18), type := _, pos := _, after := _, guard := none }) (v := ?_) rfl (by kernel_rfl) (by kernel_rfl) (by kernel_rfl) (fun _ _ _ h => h) (fun _ _ => Iff.rfl) hC (Or.inl ⟨by rfl, ?_⟩) HV.out.bx (fun hC hS => ?_)
  rotate_left
  · intro W9 hSw; skip; go_simp; try (with_reducible rfl)
  try simp only [Act.put, List.setIfInBounds_toArray, List.set_cons_zero, List.set_cons_succ]
  refine wpAnyL_take (i := 6) (oi := { dst := some 20, op := .fieldAddr 100 (.tmp 19) 3, type := _, pos := _, after := _, guard := none }) (v := ?_) rfl (by kernel_rfl) (by kernel_rfl) (by kernel_rfl) (fun _ _ _ h => h) (fun _ _ => Iff.rfl) hC (Or.inl ⟨by rfl, ?_⟩) HV.out.bx (fun hC hS => ?_)
  rotate_left
  · intro W9 hSw; skip; go_simp; try (with_reducible rfl)
  try simp only [Act.put, List.setIfInBounds_toArray, List.set_cons_zero, List.set_cons_succ]
  refine wpAnyL_take (i := 7) (oi := { dst := some 21, op := .load 3 (.tmp 20), type := _, pos := _, after := _, guard := none }) (v := ?_) rfl (by kernel_rfl) (by kernel_rfl) (by kernel_rfl) (fun _ _ _ h => h) (fun _ _ => Iff.rfl) hC (Or.inl ⟨by rfl, ?_⟩) HV.out.bx (fun hC hS => ?_)
  rotate_left
  · intro W9 hSw; have q0 := (cell_of_row _ _ 3 _ _ _ hSw.choose_spec.2.2).trans rfl; go_simp; try (with_reducible rfl)
  try simp only [Act.put, List.setIfInBounds_toArray, List.set_cons_zero, List.set_cons_succ]
  refine wpAnyL_take (i := 8) (oi := { dst := some 22, op := .fieldAddr 42 (.tmp 3) 0, type := _, pos := _, after := _, guard := none }) (v := ?_) rfl (by kernel_rfl) (by kernel_rfl) (by kernel_rfl) (fun _ _ _ h => h) (fun _ _ => Iff.rfl) hC (Or.inl ⟨by rfl, ?_⟩) HV.out.bx (fun hC hS => ?_)
  rotate_left
  · intro W9 hSw; skip; go_simp; try (with_reducible rfl)
  try simp only [Act.put, List.setIfInBounds_toArray, List.set_cons_zero, List.set_cons_succ]
  refine wpAnyL_ready (rs := [9]) (by kernel_rfl) (by simp) hC ?_
  refine AllReadyL.cons (o := { dst := none, op := .store 3 (.tmp 22) (.tmp 17), type := _, pos := _, after := _, guard := none }) rfl (fun K9 hK => ?_) ?_
  · skip
    have y0 : v0.cell? ⟨r, 0, none⟩ = some (.int .i64 e0) := (cell_of_row _ _ 0 _ _ _ HF.out).trans rfl
    have z0 : v0.frozen? ⟨r, 0, none⟩ = false := frozen_of_row _ _ _ _ _ HF.out
    go_simp
    clear y0 z0
    have HF1 : Hid ((v0.setCell ⟨r, 0, none⟩ (.int .i64 ep)).heap[r]? = some (.cells #[.int .i64 ep, .int .i64 s0, .int .i64 k, .string x, .string o, .string y, .int .i64 t, .int .i64 u] 42 (0, 0))) := Lib.hid (by have q := heap_setCell_at (i := 0) (u := .int .i64 ep) HF.out; exact q)
    have HK1 := Lib.hid ((KK.refl [r] v0).set (b := r) (by simp) 0 (.int .i64 ep))
    refine hK _ _ (HK1.out.blk HV.out.bx (by simpa using hJr)) (fun hC => ?_)
    clear hK K9
    try simp only [Act.put, List.setIfInBounds_toArray, List.set_cons_zero, List.set_cons_succ]
    refine wpAnyL_take (i := 10) (oi := { dst := some 23, op := .fieldAddr 42 (.tmp 3) 1, type := _, pos := _, after := _, guard := none }) (v := ?_) rfl (by kernel_rfl) (by kernel_rfl) (by kernel_rfl) (fun _ _ _ h => h) (fun _ _ => Iff.rfl) hC (Or.inl ⟨by rfl, ?_⟩) (HK1.out.blk HV.out.bx (by simpa using hJr)) (fun hC hS => ?_)
    rotate_left
    · intro W9 hSw; skip; go_simp; try (with_reducible rfl)
    try simp only [Act.put, List.setIfInBounds_toArray, List.set_cons_zero, List.set_cons_succ]
    refine wpAnyL_ready (rs := [11]) (by kernel_rfl) (by simp) hC ?_
    refine AllReadyL.cons (o := { dst := none, op := .store 3 (.tmp 23) (.tmp 21), type := _, pos := _, after := _, guard := none }) rfl (fun K9 hK => ?_) ?_
    · skip
      have y0 : (v0.setCell ⟨r, 0, none⟩ (.int .i64 ep)).cell? ⟨r, 1, none⟩ = some (.int .i64 s0) := (cell_of_row _ _ 1 _ _ _ HF1.out).trans rfl
      have z0 : (v0.setCell ⟨r, 0, none⟩ (.int .i64 ep)).frozen? ⟨r, 1, none⟩ = false := frozen_of_row _ _ _ _ _ HF1.out
      go_simp
      clear y0 z0
      have HF2 : Hid (((v0.setCell ⟨r, 0, none⟩ (.int .i64 ep)).setCell ⟨r, 1, none⟩ (.int .i64 ct)).heap[r]? = some (.cells #[.int .i64 ep, .int .i64 ct, .int .i64 k, .string x, .string o, .string y, .int .i64 t, .int .i64 u] 42 (0, 0))) := Lib.hid (by have q := heap_setCell_at (i := 1) (u := .int .i64 ct) HF1.out; exact q)
      have HK2 := Lib.hid (HK1.out.set (b := r) (by simp) 1 (.int .i64 ct))
      refine hK _ _ (HK2.out.blk HV.out.bx (by simpa using hJr)) (fun hC => ?_)
      clear hK K9
      try simp only [Act.put, List.setIfInBounds_toArray, List.set_cons_zero, List.set_cons_succ]
      refine wpAnyL_done (by kernel_rfl) ?_ _
      clear hS hC
      have HV2 := Lib.hid (HV.out.kk HK2.out HNR.out hrn hJr)
      have HB2 : Hid (Below r w ((v0.setCell ⟨r, 0, none⟩ (.int .i64 ep)).setCell ⟨r, 1, none⟩ (.int .i64 ct))) := Lib.hid (HK2.out.below HB.out (fun b hb => by have e : b = r := (by simpa using hb); omega) (by have := HB.out.size; omega))
      have HT2 := Lib.hid (HT.out.later (by rw [hrr]; exact HB2.out))
      have HQ : Hid (Kd D w ((v0.setCell ⟨r, 0, none⟩ (.int .i64 ep)).setCell ⟨r, 1, none⟩ (.int .i64 ct))) := Lib.hid (Kd.of_below (by rw [hrr]; exact HB2.out) (by rw [hrr]; exact hDr))
      clear HV HB HB2 HF HF1 HK1 HK2 HNR HT
      have HV := Lib.hid HV2.out
      clear HV2
      generalize ((v0.setCell ⟨r, 0, none⟩ (.int .i64 ep)).setCell ⟨r, 1, none⟩ (.int .i64 ct)) = v1 at *
      have y0 : v1.cell? ⟨r, 0, none⟩ = _ := (cell_of_row _ _ 0 _ _ _ HF2.out).trans rfl
      have y1 : v1.cell? ⟨r, 1, none⟩ = _ := (cell_of_row _ _ 1 _ _ _ HF2.out).trans rfl
      have y2 : v1.cell? ⟨r, 2, none⟩ = _ := (cell_of_row _ _ 2 _ _ _ HF2.out).trans rfl
      have y3 : v1.cell? ⟨r, 3, none⟩ = _ := (cell_of_row _ _ 3 _ _ _ HF2.out).trans rfl
      have y4 : v1.cell? ⟨r, 4, none⟩ = _ := (cell_of_row _ _ 4 _ _ _ HF2.out).trans rfl
      have y5 : v1.cell? ⟨r, 5, none⟩ = _ := (cell_of_row _ _ 5 _ _ _ HF2.out).trans rfl
      have y6 : v1.cell? ⟨r, 6, none⟩ = _ := (cell_of_row _ _ 6 _ _ _ HF2.out).trans rfl
      have y7 : v1.cell? ⟨r, 7, none⟩ = _ := (cell_of_row _ _ 7 _ _ _ HF2.out).trans rfl
      go_wp2_with fail
      clear y0 y1 y2 y3 y4 y5 y6 y7 HF2
      refine (erput_yes ep ct k x o y t u v1 HT2.out HRK.out).mono ?_
      rintro e w1 ⟨rfl, hb⟩
      have HQ := Lib.hid (HQ.out.trans (Kd.of_below hb HV.out.dw.lt))
      have HV := Lib.hid (HV.out.below hb)
      clear hb
      clear HT2
      generalize recS ep ct k x o y t u = rs at *
      have c3 := HV.out.c3
      go_wp2_with fail
      clear c3
      refine (HP1.out _ HV.out).mono ?_
      rintro e w2 ⟨rfl, hb⟩
      have HQ := Lib.hid (HQ.out.trans (Kd.of_below hb HV.out.dw.lt))
      have HV := Lib.hid (HV.out.below hb)
      clear hb
      have c3 := HV.out.c3
      go_wp2_with fail
      clear c3
      refine (HP2.out _ HV.out).mono ?_
      rintro e w3 ⟨rfl, hb⟩
      have HQ := Lib.hid (HQ.out.trans (Kd.of_below hb HV.out.dw.lt))
      have HV := Lib.hid (HV.out.below hb)
      clear hb
      go_wp2_with fail
      refine (HRP.out _).mono ?_
      rintro e w4 ⟨he, hb⟩
      rw [HREP.out] at he
      subst he
      have HQ := Lib.hid (HQ.out.trans (Kd.of_below hb HV.out.dw.lt))
      have HV := Lib.hid (HV.out.below hb)
      clear hb
      go_upto_region 12 with (fail)
      have HQ := Lib.hid (HQ.out.trans (Kd.of_below (Below.refl w4.heap.size w4).drew HV.out.dw.lt))
      have HV := Lib.hid (HV.out.below (Below.refl _ _).drew)
      refine wp_region_L_drew (S := fun _ W => W.heap[J]? = some (jnO D hf ep ct)) (by kernel_rfl) HV.out.bx (fun hS hC => ?_)
      generalize w4.drew = v0 at *
      refine wpAnyL_take (i := 0) (oi := { dst := some 54, op := .move (.tmp 0), type := _, pos := _, after := _, guard := none }) (v := ?_) rfl (by kernel_rfl) (by kernel_rfl) (by kernel_rfl) (fun _ _ _ h => h) (fun _ _ => Iff.rfl) hC (Or.inl ⟨by rfl, ?_⟩) HV.out.bx (fun hC hS => ?_)
      rotate_left
      · intro W9 hSw; skip; go_simp; try (with_reducible rfl)
      try simp only [Act.put, List.setIfInBounds_toArray, List.set_cons_zero, List.set_cons_succ]
      refine wpAnyL_take (i := 1) (oi := { dst := some 55, op := .move (.tmp 7), type := _, pos := _, after := _, guard := none }) (v := ?_) rfl (by kernel_rfl) (by kernel_rfl) (by kernel_rfl) (fun _ _ _ h => h) (fun _ _ => Iff.rfl) hC (Or.inl ⟨by rfl, ?_⟩) HV.out.bx (fun hC hS => ?_)
      rotate_left
      · intro W9 hSw; skip; go_simp; try (with_reducible rfl)
      try simp only [Act.put, List.setIfInBounds_toArray, List.set_cons_zero, List.set_cons_succ]
      refine wpAnyL_take (i := 2) (oi := { dst := some 56, op := .move (.tmp 10), type := _, pos := _, after := _, guard := none }) (v := ?_) rfl (by kernel_rfl) (by kernel_rfl) (by kernel_rfl) (fun _ _ _ h => h) (fun _ _ => Iff.rfl) hC (Or.inl ⟨by rfl, ?_⟩) HV.out.bx (fun hC hS => ?_)
      rotate_left
      · intro W9 hSw; skip; go_simp; try (with_reducible rfl)
      try simp only [Act.put, List.setIfInBounds_toArray, List.set_cons_zero, List.set_cons_succ]
      refine wpAnyL_take (i := 4) (oi := { dst := some 58, op := .move (.tmp 0), type := _, pos := _, after := _, guard := none }) (v := ?_) rfl (by kernel_rfl) (by kernel_rfl) (by kernel_rfl) (fun _ _ _ h => h) (fun _ _ => Iff.rfl) hC (Or.inl ⟨by rfl, ?_⟩) HV.out.bx (fun hC hS => ?_)
      rotate_left
      · intro W9 hSw; skip; go_simp; try (with_reducible rfl)
      try simp only [Act.put, List.setIfInBounds_toArray, List.set_cons_zero, List.set_cons_succ]
      refine wpAnyL_take (i := 5) (oi := { dst := some 59, op := .nilCheck (.tmp 58), type := _, pos := _, after := _, guard := none }) (v := ?_) rfl (by kernel_rfl) (by kernel_rfl) (by kernel_rfl) (fun _ _ _ h => h) (fun _ _ => Iff.rfl) hC (Or.inl ⟨by rfl, ?_⟩) HV.out.bx (fun hC hS => ?_)
      rotate_left
      · intro W9 hSw; skip; go_simp; try (with_reducible rfl)
      try simp only [Act.put, List.setIfInBounds_toArray, List.set_cons_zero, List.set_cons_succ]
      refine wpAnyL_take (i := 6) (oi := { dst := some 60, op := .fieldAddr 100 (.tmp 59) 0, type := _, pos := _, after := _, guard := none }) (v := ?_) rfl (by kernel_rfl) (by kernel_rfl) (by kernel_rfl) (fun _ _ _ h => h) (fun _ _ => Iff.rfl) hC (Or.inl ⟨by rfl, ?_⟩) HV.out.bx (fun hC hS => ?_)
      rotate_left
      · intro W9 hSw; skip; go_simp; try (with_reducible rfl)
      try simp only [Act.put, List.setIfInBounds_toArray, List.set_cons_zero, List.set_cons_succ]
      refine wpAnyL_take (i := 7) (oi := { dst := some 61, op := .load 25 (.tmp 60), type := _, pos := _, after := _, guard := none }) (v := ?_) rfl (by kernel_rfl) (by kernel_rfl) (by kernel_rfl) (fun _ _ _ h => h) (fun _ _ => Iff.rfl) hC (Or.inl ⟨by rfl, ?_⟩) HV.out.bx (fun hC hS => ?_)
      rotate_left
      · intro W9 hSw; have q0 := (cell_of_row _ _ 0 _ _ _ hSw.choose_spec.2.2).trans rfl; go_simp; try (with_reducible rfl)
      try simp only [Act.put, List.setIfInBounds_toArray, List.set_cons_zero, List.set_cons_succ]
      refine wpAnyL_take (i := 8) (oi := { dst := some 62, op := .makeFunc (.func 55) #[.tmp 61] #[], type := _, pos := _, after := _, guard := none }) (v := ?_) rfl (by kernel_rfl) (by kernel_rfl) (by kernel_rfl) (fun _ _ _ h => h) (fun _ _ => Iff.rfl) hC (Or.inl ⟨by rfl, ?_⟩) HV.out.bx (fun hC hS => ?_)
      rotate_left
      · intro W9 hSw; skip; go_simp; try (with_reducible rfl)
      try simp only [Act.put, List.setIfInBounds_toArray, List.set_cons_zero, List.set_cons_succ]
      refine wpAnyL_take (i := 9) (oi := { dst := some 63, op := .move (.tmp 0), type := _, pos := _, after := _, guard := none }) (v := ?_) rfl (by kernel_rfl) (by kernel_rfl) (by kernel_rfl) (fun _ _ _ h => h) (fun _ _ => Iff.rfl) hC (Or.inl ⟨by rfl, ?_⟩) HV.out.bx (fun hC hS => ?_)
      rotate_left
      · intro W9 hSw; skip; go_simp; try (with_reducible rfl)
      try simp only [Act.put, List.setIfInBounds_toArray, List.set_cons_zero, List.set_cons_succ]
      refine wpAnyL_take (i := 10) (oi := { dst := some 64, op := .move (.tmp 8), type := _, pos := _, after := _, guard := none }) (v := ?_) rfl (by kernel_rfl) (by kernel_rfl) (by kernel_rfl) (fun _ _ _ h => h) (fun _ _ => Iff.rfl) hC (Or.inl ⟨by rfl, ?_⟩) HV.out.bx (fun hC hS => ?_)
      rotate_left
      · intro W9 hSw; skip; go_simp; try (with_reducible rfl)
      try simp only [Act.put, List.setIfInBounds_toArray, List.set_cons_zero, List.set_cons_succ]
      refine wpAnyL_take (i := 11) (oi := { dst := some 65, op := .move (.tmp 5), type := _, pos := _, after := _, guard := none }) (v := ?_) rfl (by kernel_rfl) (by kernel_rfl) (by kernel_rfl) (fun _ _ _ h => h) (fun _ _ => Iff.rfl) hC (Or.inl ⟨by rfl, ?_⟩) HV.out.bx (fun hC hS => ?_)
      rotate_left
      · intro W9 hSw; skip; go_simp; try (with_reducible rfl)
      try simp only [Act.put, List.setIfInBounds_toArray, List.set_cons_zero, List.set_cons_succ]
      refine wpAnyL_take (i := 13) (oi := { dst := some 67, op := .move (.tmp 0), type := _, pos := _, after := _, guard := none }) (v := ?_) rfl (by kernel_rfl) (by kernel_rfl) (by kernel_rfl) (fun _ _ _ h => h) (fun _ _ => Iff.rfl) hC (Or.inl ⟨by rfl, ?_⟩) HV.out.bx (fun hC hS => ?_)
      rotate_left
      · intro W9 hSw; skip; go_simp; try (with_reducible rfl)
      try simp only [Act.put, List.setIfInBounds_toArray, List.set_cons_zero, List.set_cons_succ]
      refine wpAnyL_take (i := 14) (oi := { dst := some 68, op := .nilCheck (.tmp 67), type := _, pos := _, after := _, guard := none }) (v := ?_) rfl (by kernel_rfl) (by kernel_rfl) (by kernel_rfl) (fun _ _ _ h => h) (fun _ _ => Iff.rfl) hC (Or.inl ⟨by rfl, ?_⟩) HV.out.bx (fun hC hS => ?_)
      rotate_left
      · intro W9 hSw; skip; go_simp; try (with_reducible rfl)
      try simp only [Act.put, List.setIfInBounds_toArray, List.set_cons_zero, List.set_cons_succ]
      refine wpAnyL_take (i := 15) (oi := { dst := some 69, op := .fieldAddr 100 (.tmp 68) 0, type := _, pos := _, after := _, guard := none }) (v := ?_) rfl (by kernel_rfl) (by kernel_rfl) (by kernel_rfl) (fun _ _ _ h => h) (fun _ _ => Iff.rfl) hC (Or.inl ⟨by rfl, ?_⟩) HV.out.bx (fun hC hS => ?_)
      rotate_left
      · intro W9 hSw; skip; go_simp; try (with_reducible rfl)
      try simp only [Act.put, List.setIfInBounds_toArray, List.set_cons_zero, List.set_cons_succ]
      refine wpAnyL_take (i := 16) (oi := { dst := some 70, op := .load 25 (.tmp 69), type := _, pos := _, after := _, guard := none }) (v := ?_) rfl (by kernel_rfl) (by kernel_rfl) (by kernel_rfl) (fun _ _ _ h => h) (fun _ _ => Iff.rfl) hC (Or.inl ⟨by rfl, ?_⟩) HV.out.bx (fun hC hS => ?_)
      rotate_left
      · intro W9 hSw; have q0 := (cell_of_row _ _ 0 _ _ _ hSw.choose_spec.2.2).trans rfl; go_simp; try (with_reducible rfl)
      try simp only [Act.put, List.setIfInBounds_toArray, List.set_cons_zero, List.set_cons_succ]
      refine wpAnyL_take (i := 17) (oi := { dst := some 71, op := .makeFunc (.func 55) #[.tmp 70] #[], type := _, pos := _, after := _, guard := none }) (v := ?_) rfl (by kernel_rfl) (by kernel_rfl) (by kernel_rfl) (fun _ _ _ h => h) (fun _ _ => Iff.rfl) hC (Or.inl ⟨by rfl, ?_⟩) HV.out.bx (fun hC hS => ?_)
      rotate_left
      · intro W9 hSw; skip; go_simp; try (with_reducible rfl)
      try simp only [Act.put, List.setIfInBounds_toArray, List.set_cons_zero, List.set_cons_succ]
      refine wpAnyL_ready (rs := [3]) (by kernel_rfl) (by simp) hC ?_
      refine AllReadyL.cons (o := { dst := some 57, op := .call { callee := .value (.func 54), args := #[.tmp 54, .tmp 55, .tmp 56], argTypes := #[37, 3, 9] }, type := _, pos := _, after := _, guard := none }) rfl (fun K9 hK => ?_) ?_
      · skip
        go_simp
        refine (jwrite_any HV.out a1 noZ).mono ?_
        rintro e v1 ⟨rfl, hw, hb⟩
        have HQ := Lib.hid (HQ.out.trans (Kd.of_below hb HV.out.dw.lt))
        have HV := Lib.hid (HV.out.below hb)
        have HG1 := Lib.hid hw
        clear hw hb
        generalize v0.heap.size = p1 at *
        simp only [wrF]
        refine hK _ _ HV.out.bx (fun hC => ?_)
        clear hK K9
        try simp only [Act.put, List.setIfInBounds_toArray, List.set_cons_zero, List.set_cons_succ]
        refine wpAnyL_ready (rs := [12]) (by kernel_rfl) (by simp) hC ?_
        refine AllReadyL.cons (o := { dst := some 66, op := .call { callee := .value (.func 54), args := #[.tmp 63, .tmp 64, .tmp 65], argTypes := #[37, 3, 9] }, type := _, pos := _, after := _, guard := none }) rfl (fun K9 hK => ?_) ?_
        · skip
          go_simp
          refine (jwrite_any HV.out a2 rs).mono ?_
          rintro e v2 ⟨rfl, hw, hb⟩
          have HQ := Lib.hid (HQ.out.trans (Kd.of_below hb HV.out.dw.lt))
          have HG1 := Lib.hid (HG1.out.kd (Kd.of_below hb HV.out.dw.lt))
          have HV := Lib.hid (HV.out.below hb)
          have HG2 := Lib.hid hw
          clear hw hb
          generalize v1.heap.size = p2 at *
          simp only [wrF]
          refine hK _ _ HV.out.bx (fun hC => ?_)
          clear hK K9
          try simp only [Act.put, List.setIfInBounds_toArray, List.set_cons_zero, List.set_cons_succ]
          refine wpAnyL_ready (rs := [18]) (by kernel_rfl) (by simp) hC ?_
          refine AllReadyL.cons (o := { dst := some 72, op := .buildSlice 180 4 #[(0, .tmp 57), (1, .tmp 62), (2, .tmp 66), (3, .tmp 71)], type := _, pos := _, after := _, guard := none }) rfl (fun K9 hK => ?_) ?_
          · skip
            go_simp
            have hb : Below v2.heap.size v2 (v2.alloc (.cells #[wrF p1, flF D, wrF p2, flF D] 61 (0, 0))) := (Below.refl _ _).alloc (Nat.le_refl _) _
            have HQ := Lib.hid (HQ.out.trans (Kd.of_below hb HV.out.dw.lt))
            have hnb : ¬ InD D (v2.alloc (.cells #[wrF p1, flF D, wrF p2, flF D] 61 (0, 0))) v2.heap.size := fun q => by have := HV.out.dw.dk.new (q.back hb HV.out.dw.lt); omega
            have HGB : Hid (Bx D v2.heap.size (.cells #[wrF p1, flF D, wrF p2, flF D] 61 (0, 0)) (v2.alloc (.cells #[wrF p1, flF D, wrF p2, flF D] 61 (0, 0)))) := Lib.hid ⟨blk_new v2 _, hnb⟩
            have HG1 := Lib.hid (HG1.out.kd (Kd.of_below hb HV.out.dw.lt))
            have HG2 := Lib.hid (HG2.out.kd (Kd.of_below hb HV.out.dw.lt))
            have HV := Lib.hid (HV.out.below hb)
            clear hb hnb
            refine hK _ _ HV.out.bx (fun hC => ?_)
            clear hK K9
            try simp only [Act.put, List.setIfInBounds_toArray, List.set_cons_zero, List.set_cons_succ]
            refine wpAnyL_ready (rs := [19]) (by kernel_rfl) (by simp) hC ?_
            refine AllReadyL.cons (o := { dst := some 73, op := .call { callee := .value (.func 53), args := #[.tmp 72], argTypes := #[180] }, type := _, pos := _, after := _, guard := none }) rfl (fun K9 hK => ?_) ?_
            · skip
              go_simp
              refine (HST.out _ v2.heap.size 4 p1 p2 HV.out HG1.out HG2.out HGB.out).mono ?_
              rintro e v3 ⟨rfl, hj, hk⟩
              have HQ := Lib.hid (HQ.out.trans hk)
              have HV := Lib.hid hj
              clear hj hk HG1 HG2 HGB
              refine hK _ _ HV.out.bx (fun hC => ?_)
              clear hK K9
              try simp only [Act.put, List.setIfInBounds_toArray, List.set_cons_zero, List.set_cons_succ]
              refine wpAnyL_take (i := 20) (oi := { dst := some 6, op := .assign (.tmp 73), type := _, pos := _, after := _, guard := none }) (v := ?_) rfl (by kernel_rfl) (by kernel_rfl) (by kernel_rfl) (fun _ _ _ h => h) (fun _ _ => Iff.rfl) hC (Or.inl ⟨by rfl, ?_⟩) HV.out.bx (fun hC hS => ?_)
              rotate_left
              · intro W9 hSw; skip; go_simp; try (with_reducible rfl)
              try simp only [Act.put, List.setIfInBounds_toArray, List.set_cons_zero, List.set_cons_succ]
              refine wpAnyL_done (by kernel_rfl) ?_ _
              clear hS hC
              by_cases hz : Z.2 = 0
              · have hz1 : (Z.2 == 0) = true := by simpa using hz
                have HC1 := Lib.hid (show cc = ct + 1 from by rw [HCC.out]; unfold jcE; rw [if_pos hz])
                have c3 := HV.out.c3
                have f3 := HV.out.fz 3
                have HV9 := Lib.hid (HV.out.set (ct + 1))
                have HQ9 := Lib.hid ((HQ.out.kj (J := J)).trans (Kj.of_kk ((KK.refl [J] _).set (b := J) (by simp) 3 (.int .i64 (ct + 1))) HV.out.dw.lt hDJ))
                go_wp2_with fail
                go_ret
                exact ⟨rfl, by rw [HC1.out]; exact HV9.out, HQ9.out⟩
              · have hz1 : (Z.2 == 0) = false := by simpa using hz
                have HC1 := Lib.hid (show cc = ct from by rw [HCC.out]; unfold jcE; rw [if_neg hz])
                go_wp2_with fail
                go_ret
                exact ⟨rfl, by rw [HC1.out]; exact HV.out, HQ.out.kj⟩
            exact AllReadyL.nil
          exact AllReadyL.nil
        exact AllReadyL.nil
      exact AllReadyL.nil
    exact AllReadyL.nil
  exact AllReadyL.nil
end
end Go.Proofs.YtiflieaemgamkaaGreatDoor

namespace Go.Proofs.YtiflieaemgamkaaGreatDoor
open Go.RowKit Vi Ar Cm

abbrev recJ (r : RcJ) : ByteArray := recS r.1 r.2.1 r.2.2.1 r.2.2.2.1 r.2.2.2.2.1 r.2.2.2.2.2.1 r.2.2.2.2.2.2.1 r.2.2.2.2.2.2.2
abbrev rokJ (r : RcJ) : Bool := rok r.1 r.2.1 r.2.2.1 r.2.2.2.1 r.2.2.2.2.1 r.2.2.2.2.2.1 r.2.2.2.2.2.2.1 r.2.2.2.2.2.2.2
abbrev recVJ (r : RcJ) : Array Value := recV r.1 r.2.1 r.2.2.1 r.2.2.2.1 r.2.2.2.2.1 r.2.2.2.2.2.1 r.2.2.2.2.2.2.1 r.2.2.2.2.2.2.2
theorem rcJ_len (r : RcJ) : (rcJ r).length = 8 := rfl
theorem rcJ_one (r : RcJ) : ∀ u ∈ rcJ r, u.oneCell' = true := by
  intro u hu
  simp only [rcJ, List.mem_cons, List.mem_nil_iff, or_false] at hu
  rcases hu with rfl | rfl | rfl | rfl | rfl | rfl | rfl | rfl <;> rfl
theorem info_rcJ : (Tryz.prog.info? 42).map (fun i => (i.zero, i.size, i.bytes)) = some (some (.agg #[.int .i64 0, .int .i64 0, .int .i64 0, .string ⟨#[]⟩, .string ⟨#[]⟩, .string ⟨#[]⟩, .int .i64 0, .int .i64 0]), 8, 88) := by kernel_rfl
/-- the record of a sector, if it is the k-th one of an epoch -/
noncomputable def rdJ (S : ByteArray) (ep k : Int) : Option RcJ := by
  classical exact if h : ∃ r : RcJ, rokJ r = true ∧ S = recJ r ∧ r.1 = ep ∧ r.2.1 = k then some h.choose else none
theorem rdJ_some {S : ByteArray} {ep k : Int} {r : RcJ} (h : rdJ S ep k = some r) : rokJ r = true ∧ S = recJ r ∧ r.1 = ep ∧ r.2.1 = k := by
  unfold rdJ at h
  split at h
  · next q =>
    injection h with h
    rw [← h]
    exact q.choose_spec
  · cases h
theorem rdJ_none {S : ByteArray} {ep k : Int} (h : rdJ S ep k = none) : ∀ r : RcJ, rokJ r = true → S = recJ r → ¬ (r.1 = ep ∧ r.2.1 = k) := by
  unfold rdJ at h
  split at h
  · cases h
  · next q => exact fun r h1 h2 h3 => q ⟨r, h1, h2, h3⟩
theorem rdJ_short {S : ByteArray} {ep k : Int} (h : S.size ≠ 128) : rdJ S ep k = none := by
  cases q : rdJ S ep k with
  | none => rfl
  | some r =>
    obtain ⟨h1, h2, _⟩ := rdJ_some q
    exact absurd (by rw [h2]; exact rec_size h1) h
theorem eisJ_some {S : ByteArray} {ep k : Int} {r : RcJ} (h : rdJ S ep k = some r) (W : World) (hT : Tab W) :
    Calls Tryz.prog 100 #[.string S, .int .i64 ep, .int .i64 k] W fun e w' => e = .returned (.tuple #[.agg (recVJ r), .bool true]) ∧ Below W.heap.size W w' := by
  obtain ⟨h1, h2, h3, h4⟩ := rdJ_some h
  have q := eis_hit r.1 r.2.1 r.2.2.1 r.2.2.2.1 r.2.2.2.2.1 r.2.2.2.2.2.1 r.2.2.2.2.2.2.1 r.2.2.2.2.2.2.2 W hT h1
  rw [h2, ← h3, ← h4]
  exact q
theorem eisJ_none {S : ByteArray} {ep k : Int} (h : rdJ S ep k = none) (hS : S.size ≤ 1000) (W : World) (hT : Tab W) :
    Calls Tryz.prog 100 #[.string S, .int .i64 ep, .int .i64 k] W fun e w' => e = .returned (.tuple #[.agg recZ, .bool false]) ∧ Below W.heap.size W w' := by
  by_cases q : IsRec S
  · obtain ⟨a, b, kk, x, o, n, t, u, h1, rfl⟩ := q
    exact eis_miss a b kk x o n t u ep k W hT h1 (rdJ_none h (a, b, kk, x, o, n, t, u) h1 rfl)
  · exact eis_no S ep k W hT hS q
/-- the records that are read, one behind the other -/
noncomputable def opJ (hh ep : Int) : Nat → Ds → List RcJ → Ds × List RcJ × Int
  | 0, d, l => (d, l, 0)
  | f + 1, d, l => if d.rdE (plA (d.S.length : Int) hh (l.length : Int)) = 0 then (match rdJ (d.rdS (plA (d.S.length : Int) hh (l.length : Int))) ep (l.length : Int) with
      | none => (d.red (plA (d.S.length : Int) hh (l.length : Int)), l, 0)
      | some r => opJ hh ep f (d.red (plA (d.S.length : Int) hh (l.length : Int))) (l ++ [r]))
    else (d.red (plA (d.S.length : Int) hh (l.length : Int)), [], d.rdE (plA (d.S.length : Int) hh (l.length : Int)))
section
variable {hh ep a : Int} {f : Nat} {d : Ds} {l : List RcJ} {R : Ds × List RcJ × Int}
theorem opJ_err (h : opJ hh ep (f + 1) d l = R) (ha : a = plA (d.S.length : Int) hh (l.length : Int)) (q : d.rdE a ≠ 0) : R = (d.red a, [], d.rdE a) := by rw [opJ, ← ha, if_neg q] at h; exact h.symm
theorem opJ_none (h : opJ hh ep (f + 1) d l = R) (ha : a = plA (d.S.length : Int) hh (l.length : Int)) (q : d.rdE a = 0) (hr : rdJ (d.rdS a) ep (l.length : Int) = none) : R = (d.red a, l, 0) := by rw [opJ, ← ha, if_pos q, hr] at h; exact h.symm
theorem opJ_some {r : RcJ} (h : opJ hh ep (f + 1) d l = R) (ha : a = plA (d.S.length : Int) hh (l.length : Int)) (q : d.rdE a = 0) (hr : rdJ (d.rdS a) ep (l.length : Int) = some r) : opJ hh ep f (d.red a) (l ++ [r]) = R := by rw [opJ, ← ha, if_pos q, hr] at h; exact h
end
theorem red_len (d : Ds) (a : Int) : (d.red a).S.length = d.S.length := by unfold Ds.red; split <;> rfl
theorem typ_rec : Typ 42 := ⟨by decide, by decide, by decide⟩
theorem own_type {α : Type} {f : α → List Value} {s : Nat} {T : TypeId} {w : World} {B g : Nat} {v : Value} {l : List α} (h : OwX f s T w B v l) (e : v.ownBlock = some g) : B ≤ g ∧ g < w.heap.size ∧ ∃ cur, w.heap[g]? = some (.cells cur T (0, 0)) := by
  rcases h with ⟨h1, h | ⟨b, cap, cur, h2, h3, h4, h5⟩⟩
  · rw [h.1] at e; simp [Value.ownBlock] at e
  · rw [h2] at e
    simp [Value.ownBlock] at e
    subst e
    exact ⟨h3, lt_of_block h4, cur, h4⟩
theorem OwX.same {α : Type} {f : α → List Value} {s : Nat} {T : TypeId} {w W : World} {B : Nat} {v : Value} {l : List α} (h : OwX f s T w B v l) (hb : ∀ g, v.ownBlock = some g → W.heap[g]? = w.heap[g]?) : OwX f s T W B v l := by
  rcases h with ⟨h1, h | ⟨b, cap, cur, h2, h3, h4, h5⟩⟩
  · exact ⟨h1, .inl h⟩
  · exact ⟨h1, .inr ⟨b, cap, cur, h2, h3, (hb b (by rw [h2]; simp [Value.ownBlock])).trans h4, h5⟩⟩
theorem DK.notIn {D g : Nat} {SS : List ByteArray} {CC : List Wr} {dn : Bool} {ops fu : Int} {w : World} {cs : Array Value} {T : TypeId} {fr : Nat × Nat} (h : DK D SS CC dn ops fu w) (hg : w.heap[g]? = some (.cells cs T fr)) (hT : Typ T) : ¬ InD D w g := by
  obtain ⟨⟨sa, sn, sc, ca, cn, cc, h1, h2, h3⟩, h4⟩ := h
  intro q
  rcases q.cases h1 with q | ⟨o, q⟩ | ⟨o, q⟩
  · subst q
    rw [hg] at h1
    cases h1
    exact hT.2.2 rfl
  · subst q
    rcases h2 with ⟨_, h | ⟨b, cap, cur, e, _, h5, _⟩⟩
    · cases h.1
    · injection e with e _ _
      injection e with e
      injection e with e _ _
      subst e
      rw [hg] at h5
      cases h5
      exact hT.1 rfl
  · subst q
    rcases h3 with ⟨_, h | ⟨b, cap, cur, e, _, h5, _⟩⟩
    · cases h.1
    · injection e with e _ _
      injection e with e
      injection e with e _ _
      subst e
      rw [hg] at h5
      cases h5
      exact hT.2.1 rfl
theorem DK.blocks {D : Nat} {SS : List ByteArray} {CC : List Wr} {dn : Bool} {ops fu : Int} {w w' : World} (h : DK D SS CC dn ops fu w) (hb : ∀ b, InD D w b → w'.heap[b]? = w.heap[b]?) : DK D SS CC dn ops fu w' ∧ ∀ b, InD D w' b → InD D w b := by
  obtain ⟨⟨sa, sn, sc, ca, cn, cc, h1, h2, h3⟩, h4⟩ := h
  have hD := hb D (.inl rfl)
  refine ⟨⟨⟨sa, sn, sc, ca, cn, cc, hD.trans h1, h2.ofB (fun b o e _ => ?_), h3.ofB (fun b o e _ => ?_)⟩, h4⟩, fun b q => ?_⟩
  · subst e; exact hb b (InD.safe h1)
  · subst e; exact hb b (InD.cache h1)
  · have hc : ∀ i, w'.cell? ⟨D, i, none⟩ = w.cell? ⟨D, i, none⟩ := fun i => World.cell?_of_block hD
    rcases q with q | ⟨o, n, c, q⟩ | ⟨o, n, c, q⟩
    · exact .inl q
    · exact .inr (.inl ⟨o, n, c, by rw [← hc]; exact q⟩)
    · exact .inr (.inr ⟨o, n, c, by rw [← hc]; exact q⟩)
section
variable {n : Nat} {w0 : World} {D J : Nat} {d : Ds} {hf' ep ct : Int} {w w' : World} {m : Nat} {v : Value} {l : List RcJ}
theorem DW.grownJ (h : DW n w0 D d w) (ho : OwX rcJ 8 42 w m v l) (hn : n ≤ m) (hg : w.grownBy w' v.ownBlock) : DW n w0 D d w' ∧ ∀ b, InD D w' b → InD D w b := by
  have hne : ∀ b, InD D w b → w'.heap[b]? = w.heap[b]? := fun b q => hg.block b (h.dk.new q) (fun e => by
    obtain ⟨_, _, cur, h1⟩ := own_type ho (g := b) (by first | exact e | exact e.symm)
    exact h.dk.notIn h1 typ_rec q)
  obtain ⟨k1, k2⟩ := h.dk.blocks hne
  refine ⟨⟨k1, fun b q => h.far b (k2 b q), h.bel.trans ⟨hg.os, hg.tape, hg.output, hg.size, fun b hb => hg.block b (Nat.lt_of_lt_of_le hb h.sz) (fun e => ?_)⟩, Nat.le_trans h.sz hg.size⟩, k2⟩
  have := (own_type ho (g := b) (by first | exact e | exact e.symm)).1
  omega
theorem JW.grownJ (h : JW n w0 D J d hf' ep ct w) (ho : OwX rcJ 8 42 w m v l) (hn : n ≤ m) (hg : w.grownBy w' v.ownBlock) : JW n w0 D J d hf' ep ct w' := by
  obtain ⟨k1, k2⟩ := h.dw.grownJ ho hn hg
  refine ⟨k1, (hg.block J (lt_of_block h.bx) (fun e => ?_)).trans h.bx, fun q => h.nl (k2 J q), h.ge⟩
  obtain ⟨_, _, cur, h1⟩ := own_type ho (g := J) (by first | exact e | exact e.symm)
  have h2 := h.bx
  unfold jnO at h2
  rw [h1] at h2
  cases h2
theorem Kd.grownJ {W : World} (k : Kd D W w) (h : DW n w0 D d w) (ho : OwX rcJ 8 42 w m v l) (hn : n ≤ m) (hm : W.heap.size ≤ m) (hg : w.grownBy w' v.ownBlock) : Kd D W w' := by
  obtain ⟨_, k2⟩ := h.grownJ ho hn hg
  refine ⟨hg.os.trans k.os, hg.tape.trans k.tape, hg.output.trans k.output, Nat.le_trans k.size hg.size, fun b q hn => (hg.block b (Nat.lt_of_lt_of_le q k.size) (fun e => ?_)).trans (k.block b q hn), fun b q hi => k.ind b q (k2 b hi)⟩
  have := (own_type ho (g := b) (by first | exact e | exact e.symm)).1
  omega
theorem OwX.kdJ (ho : OwX rcJ 8 42 w m v l) (h : DW n w0 D d w) (k : Kd D w w') : OwX rcJ 8 42 w' m v l :=
  ho.same (fun g e => by
    obtain ⟨_, hl, cur, h1⟩ := own_type ho e
    exact k.block g hl (h.dk.notIn h1 typ_rec))
theorem OwX.kkJ (ho : OwX rcJ 8 42 w m v l) (h : w.heap[J]? = some (jnO D hf' ep ct)) (k : KK [J] w w') : OwX rcJ 8 42 w' m v l :=
  ho.same (fun g e => by
    obtain ⟨_, hl, cur, h1⟩ := own_type ho e
    exact k.block g hl (fun q => by
      obtain rfl : g = J := by simpa using q
      unfold jnO at h
      rw [h1] at h
      cases h))
theorem OwX.kj (ho : OwX rcJ 8 42 w m v l) (h : JW n w0 D J d hf' ep ct w) (k : Kj D J w w') : OwX rcJ 8 42 w' m v l :=
  ho.same (fun g e => by
    obtain ⟨_, hl, cur, h1⟩ := own_type ho e
    exact k.block g hl (h.dw.dk.notIn h1 typ_rec) (fun q => by
      subst q
      have h2 := h.bx
      unfold jnO at h2
      rw [h1] at h2
      cases h2))
end
def slL : Value → Nat
  | .slice _ n _ => n
  | _ => 0
/-- what Open leaves -/
def OpJ (n : Nat) (w0 : World) (D : Nat) (R : Ds × List RcJ × Int) (hh ep : Int) (w : World) (e : Ending) (w' : World) : Prop :=
  (R.2.2 ≠ 0 ∧ e = .returned (.tuple #[.pointer none, .slice none 0 0, .int .i64 R.2.2]) ∧ DW n w0 D R.1 w' ∧ Kd D w w') ∨
  (R.2.2 = 0 ∧ ∃ J A c, e = .returned (.tuple #[.pointer (some ⟨J, 0, none⟩), .slice A R.2.1.length c, .int .i64 0]) ∧ JW n w0 D J R.1 hh ep (R.2.1.length : Int) w' ∧ OwX rcJ 8 42 w' w.heap.size (.slice A R.2.1.length c) R.2.1 ∧ Kd D w w' ∧ w.heap.size ≤ J)
theorem results_t3K {fn : Func} {s t u : Tmp} (h : fn.results = #[.tmp s, .tmp t, .tmp u]) (tmps : Array Value) (w : World) :
    (results fn tmps).run Tryz.prog w = .ok (.tuple #[tmps.getD s undef, tmps.getD t undef, tmps.getD u undef]) w := by
  simp [results, h]
section
variable {n : Nat} {w0 : World} {D : Nat} {d : Ds} {hh ep : Int} {w : World} {k0 : Nat}
set_option linter.unusedSimpArgs false in
set_option maxRecDepth 100000 in
set_option maxHeartbeats 16000000 in
theorem jopen_any (h : DW n w0 D d w) (ok : DsOk k0 d) (gd : GoodD d) (hk0 : k0 ≤ 850) (hN : d.S.length ≤ 40) (hT : Tab w0) (hg : 2 < n) (hb : jBad (d.S.length : Int) hh ep 0 = false) :
    Calls Tryz.prog 16 #[.pointer (some ⟨D, 0, none⟩), .int .i64 hh, .int .i64 ep] w (OpJ n w0 D (opJ hh ep (Ar.hf (d.S.length : Int)).toNat d []) hh ep w) := by
  obtain ⟨R, hR⟩ : ∃ R, R = opJ hh ep (Ar.hf (d.S.length : Int)).toNat d [] := ⟨_, rfl⟩
  rw [← hR]
  have HR := Lib.hid hR.symm
  obtain ⟨F, hF⟩ : ∃ F : Nat, F = (Ar.hf (d.S.length : Int)).toNat := ⟨_, rfl⟩
  have hfb := hf_bd (d.S.length : Int)
  have hFI : (F : Int) = Ar.hf (d.S.length : Int) := by omega
  have hF19 : F ≤ 19 := by
    have h1 : (d.S.length : Int) ≤ 40 := by omega
    unfold Ar.hf at hFI
    split at hFI <;> omega
  rw [← hF] at HR
  have HFI := Lib.hid hFI
  have hbb : (hh = 0 ∨ hh = 1) ∧ 1 ≤ ep ∧ ep ≤ 4294967295 := by
    unfold jBad at hb
    simp only [Bool.or_eq_false_iff, Bool.not_eq_false', Bool.or_eq_true, decide_eq_true_eq, decide_eq_false_iff_not] at hb
    omega
  have HAT := Lib.hid (jat_yes h ok hh ep 0 hbb.1 hbb.2.1 hbb.2.2 (Int.le_refl _) hfb.1)
  have HOK := Lib.hid ok
  have HGD := Lib.hid gd
  have HT := Lib.hid hT
  have hnw := h.sz
  have hDl := h.lt
  obtain ⟨N, hNN⟩ : ∃ N, N = d.S.length := ⟨_, rfl⟩
  have HNN := Lib.hid hNN
  clear hR hF hFI hfb h ok gd hT hb hbb hNN
  go_enter Tryz.func16, Tryz.ntmps16
  go_wp2_with fail
  refine HAT.out.mono ?_
  rintro e w1 ⟨J, rfl, hj, hbj, hJ⟩
  have HJ := Lib.hid hj
  have HK1 := Lib.hid (Kd.of_below hbj hDl)
  clear hj hbj HAT
  go_wp2_with fail
  go_loopw [11] (fun o11 wr => ∃ (l : List RcJ) (x : Ds) (A : Option Addr) (c : Nat), o11 = .slice A l.length c ∧ l.length ≤ F ∧ Hid (x.S.length = N) ∧ Hid (DsOk (k0 + l.length) x) ∧ Hid (GoodD x) ∧ Hid (opJ hh ep (F - l.length) x l = R) ∧ Hid (JW n w0 D J x hh ep (l.length : Int) wr) ∧ Hid (OwX rcJ 8 42 wr w.heap.size (.slice A l.length c) l) ∧ Hid (Kd D w wr)) (fun o11 _ => F - slL o11)
  case atStart => exact ⟨[], d, none, 0, rfl, Nat.zero_le _, Lib.hid HNN.out.symm, HOK, HGD, HR, HJ, Lib.hid (OwX.nil _), HK1⟩
  case round =>
    obtain ⟨l, x, A, c, rfl, hl, HXN, HO, HG, HE, HV, HW, HK⟩ := hrel
    clear HOK HGD HR HJ HK1
    have HXF := Lib.hid (show (F : Int) = Ar.hf (x.S.length : Int) from by rw [HXN.out, HNN.out]; exact HFI.out)
    by_cases hf : l.length = F
    · have HNX := Lib.hid (jnext_full HV.out HO.out (by omega) (by omega) (pl_out (by rw [← HXF.out]; omega)))
      unfold recZ at HNX
      have HRE := Lib.hid (show R = (x, l, 0) from by have y := HE.out; rw [show F - l.length = 0 by omega, opJ] at y; exact y.symm)
      clear hf
      go_wp2_with fail
      refine HNX.out.mono ?_
      rintro e w2 ⟨rfl, hj2, hk2⟩
      have hb : Below w2.heap.size w2 (w2.alloc (.cells #[.int .i64 0, .int .i64 0, .int .i64 0, .string ⟨#[]⟩, .string ⟨#[]⟩, .string ⟨#[]⟩, .int .i64 0, .int .i64 0] 42 (0, 0))) := (Below.refl _ _).alloc (Nat.le_refl _) _
      have HX := Lib.hid (blk_new w2 (.cells #[.int .i64 0, .int .i64 0, .int .i64 0, .string ⟨#[]⟩, .string ⟨#[]⟩, .string ⟨#[]⟩, .int .i64 0, .int .i64 0] 42 (0, 0)))
      have hw2 : w.heap.size ≤ w2.heap.size := Nat.le_trans HK.out.size hk2.size
      have hnb : ¬ InD D (w2.alloc (.cells #[.int .i64 0, .int .i64 0, .int .i64 0, .string ⟨#[]⟩, .string ⟨#[]⟩, .string ⟨#[]⟩, .int .i64 0, .int .i64 0] 42 (0, 0))) w2.heap.size := fun q => by have := hj2.dw.dk.new (q.back hb hj2.dw.lt); omega
      have hJ2 : J ≠ w2.heap.size := fun e => by have := lt_of_block hj2.bx; omega
      have HVA := Lib.hid (hj2.below hb)
      have HW2 := Lib.hid (HW.out.kdJ HV.out.dw hk2)
      have HWA := Lib.hid (HW2.out.kept hb)
      have HKA := Lib.hid ((HK.out.trans hk2).trans (Kd.of_below hb hj2.dw.lt))
      have HNB := Lib.hid hnb
      clear hb hnb hj2 hk2 HNX HV HW HK
      go_wp2_with (first
        | refine wpList_store_rowY rfl 42 (.tmp 12) (.tmp 28) rfl (w2.heap.size) #[.int .i64 0, .int .i64 0, .int .i64 0, .string ⟨#[]⟩, .string ⟨#[]⟩, .string ⟨#[]⟩, .int .i64 0, .int .i64 0] rfl rfl 42 _ HX.out (info_rec _ _ _ _ _ _ _ _) rfl (one_rec _ _ _ _ _ _ _ _) w2.heap.size _ (Below.refl _ _) (Nat.le_refl _) ?_)
      intro W3 hbk1 ho1 hb1 _
      have HV3 := Lib.hid (HVA.out.kk (g := w2.heap.size) ⟨hb1.out.os, hb1.out.tape, hb1.out.output, hb1.out.size, fun b _ hn => ho1.out b (by simpa using hn)⟩ HNB.out (by omega) hJ2)
      have HW3 := Lib.hid (HWA.out.same (fun g e => ho1.out g (fun q => by have := (own_type HW2.out e).2.1; omega)))
      have HK3 := Lib.hid (HKA.out.belowB (hb1.out.mono hw2) hDl)
      clear HVA HWA HW2 HKA HNB HX ho1 hb1
      go_wp2_with fail
      refine bodyPost_ret (results_t3K rfl _ _) rfl ?_
      rw [HRE.out]
      exact .inr ⟨rfl, J, A, c, rfl, HV3.out, HW3.out, HK3.out, hJ⟩
    · have hlF : l.length < F := by omega
      obtain ⟨a, ha⟩ : ∃ a, a = plA (x.S.length : Int) hh (l.length : Int) := ⟨_, rfl⟩
      have HP := Lib.hid (show pl (x.S.length : Int) hh (l.length : Int) = .tuple #[.int .i64 a, .int .i64 0] from by rw [ha]; exact pl_in (by omega) (by rw [← HXF.out]; omega))
      have HA := Lib.hid ha
      have HE2 := Lib.hid (show opJ hh ep ((F - (l.length + 1)) + 1) x l = R from by rw [show (F - (l.length + 1)) + 1 = F - l.length by omega]; exact HE.out)
      have HSZ := Lib.hid (HG.out.rds a)
      clear ha HE
      by_cases hE : x.rdE a = 0
      · cases hr : rdJ (x.rdS a) ep (l.length : Int) with
        | none =>
          have HNX := jnext_any HV.out HO.out (by omega) HT.out hg a (by omega) (by omega) HP.out 0 0 0 ⟨#[]⟩ ⟨#[]⟩ ⟨#[]⟩ 0 0 false (fun W q => eisJ_none hr HSZ.out W q)
          unfold recV at HNX
          rw [hE] at HNX
          have HNX := Lib.hid HNX
          have HRE := Lib.hid (opJ_none HE2.out HA.out hE hr)
          clear hr hE
          go_wp2_with fail
          refine HNX.out.mono ?_
          rintro e w2 ⟨rfl, hj2, hk2⟩
          have hb : Below w2.heap.size w2 (w2.alloc (.cells #[.int .i64 0, .int .i64 0, .int .i64 0, .string ⟨#[]⟩, .string ⟨#[]⟩, .string ⟨#[]⟩, .int .i64 0, .int .i64 0] 42 (0, 0))) := (Below.refl _ _).alloc (Nat.le_refl _) _
          have HX := Lib.hid (blk_new w2 (.cells #[.int .i64 0, .int .i64 0, .int .i64 0, .string ⟨#[]⟩, .string ⟨#[]⟩, .string ⟨#[]⟩, .int .i64 0, .int .i64 0] 42 (0, 0)))
          have hw2 : w.heap.size ≤ w2.heap.size := Nat.le_trans HK.out.size hk2.size
          have hnb : ¬ InD D (w2.alloc (.cells #[.int .i64 0, .int .i64 0, .int .i64 0, .string ⟨#[]⟩, .string ⟨#[]⟩, .string ⟨#[]⟩, .int .i64 0, .int .i64 0] 42 (0, 0))) w2.heap.size := fun q => by have := hj2.dw.dk.new (q.back hb hj2.dw.lt); omega
          have hJ2 : J ≠ w2.heap.size := fun e => by have := lt_of_block hj2.bx; omega
          have HVA := Lib.hid (hj2.below hb)
          have HW2 := Lib.hid (HW.out.kdJ HV.out.dw hk2)
          have HWA := Lib.hid (HW2.out.kept hb)
          have HKA := Lib.hid ((HK.out.trans hk2).trans (Kd.of_below hb hj2.dw.lt))
          have HNB := Lib.hid hnb
          clear hb hnb hj2 hk2 HNX HV HW HK
          go_wp2_with (first
            | refine wpList_store_rowY rfl 42 (.tmp 12) (.tmp 28) rfl (w2.heap.size) #[.int .i64 0, .int .i64 0, .int .i64 0, .string ⟨#[]⟩, .string ⟨#[]⟩, .string ⟨#[]⟩, .int .i64 0, .int .i64 0] rfl rfl 42 _ HX.out (info_rec _ _ _ _ _ _ _ _) rfl (one_rec _ _ _ _ _ _ _ _) w2.heap.size _ (Below.refl _ _) (Nat.le_refl _) ?_)
          intro W3 hbk1 ho1 hb1 _
          have HV3 := Lib.hid (HVA.out.kk (g := w2.heap.size) ⟨hb1.out.os, hb1.out.tape, hb1.out.output, hb1.out.size, fun b _ hn => ho1.out b (by simpa using hn)⟩ HNB.out (by omega) hJ2)
          have HW3 := Lib.hid (HWA.out.same (fun g e => ho1.out g (fun q => by have := (own_type HW2.out e).2.1; omega)))
          have HK3 := Lib.hid (HKA.out.belowB (hb1.out.mono hw2) hDl)
          clear HVA HWA HW2 HKA HNB HX ho1 hb1
          go_wp2_with fail
          refine bodyPost_ret (results_t3K rfl _ _) rfl ?_
          rw [HRE.out]
          exact .inr ⟨rfl, J, A, c, rfl, HV3.out, HW3.out, HK3.out, hJ⟩
        | some r =>
          have HNX := jnext_any HV.out HO.out (by omega) HT.out hg a (by omega) (by omega) HP.out r.1 r.2.1 r.2.2.1 r.2.2.2.1 r.2.2.2.2.1 r.2.2.2.2.2.1 r.2.2.2.2.2.2.1 r.2.2.2.2.2.2.2 true (fun W q => eisJ_some hr W q)
          unfold recV at HNX
          rw [hE] at HNX
          have HRE := Lib.hid (opJ_some HE2.out HA.out hE hr)
          clear hr hE
          obtain ⟨r1, r2, r3, r4, r5, r6, r7, r8⟩ := r
          simp only at HNX
          have HNX := Lib.hid HNX
          have HO2 := Lib.hid (HO.out.red a)
          have HG2 := Lib.hid (HG.out.red a)
          have HXN2 := Lib.hid ((red_len x a).trans HXN.out)
          clear HO HG HXN HXF HP HA HSZ HE2
          go_wp2_with fail
          refine HNX.out.mono ?_
          rintro e w2 ⟨rfl, hj2, hk2⟩
          have hb : Below w2.heap.size w2 (w2.alloc (.cells #[.int .i64 0, .int .i64 0, .int .i64 0, .string ⟨#[]⟩, .string ⟨#[]⟩, .string ⟨#[]⟩, .int .i64 0, .int .i64 0] 42 (0, 0))) := (Below.refl _ _).alloc (Nat.le_refl _) _
          have HX := Lib.hid (blk_new w2 (.cells #[.int .i64 0, .int .i64 0, .int .i64 0, .string ⟨#[]⟩, .string ⟨#[]⟩, .string ⟨#[]⟩, .int .i64 0, .int .i64 0] 42 (0, 0)))
          have hw2 : w.heap.size ≤ w2.heap.size := Nat.le_trans HK.out.size hk2.size
          have hnb : ¬ InD D (w2.alloc (.cells #[.int .i64 0, .int .i64 0, .int .i64 0, .string ⟨#[]⟩, .string ⟨#[]⟩, .string ⟨#[]⟩, .int .i64 0, .int .i64 0] 42 (0, 0))) w2.heap.size := fun q => by have := hj2.dw.dk.new (q.back hb hj2.dw.lt); omega
          have hJ2 : J ≠ w2.heap.size := fun e => by have := lt_of_block hj2.bx; omega
          have HVA := Lib.hid (hj2.below hb)
          have HW2 := Lib.hid (HW.out.kdJ HV.out.dw hk2)
          have HWA := Lib.hid (HW2.out.kept hb)
          have HKA := Lib.hid ((HK.out.trans hk2).trans (Kd.of_below hb hj2.dw.lt))
          have HNB := Lib.hid hnb
          clear hb hnb hj2 hk2 HNX HV HW HK
          go_wp2_with (first
            | refine wpList_store_rowY rfl 42 (.tmp 12) (.tmp 28) rfl (w2.heap.size) #[.int .i64 r1, .int .i64 r2, .int .i64 r3, .string r4, .string r5, .string r6, .int .i64 r7, .int .i64 r8] rfl rfl 42 _ HX.out (info_rec _ _ _ _ _ _ _ _) rfl (one_rec _ _ _ _ _ _ _ _) w2.heap.size _ (Below.refl _ _) (Nat.le_refl _) ?_)
          intro W3 hbk1 ho1 hb1 _
          have HV3 := Lib.hid (HVA.out.kk (g := w2.heap.size) ⟨hb1.out.os, hb1.out.tape, hb1.out.output, hb1.out.size, fun b _ hn => ho1.out b (by simpa using hn)⟩ HNB.out (by omega) hJ2)
          have HW3 := Lib.hid (HWA.out.same (fun g e => ho1.out g (fun q => by have := (own_type HW2.out e).2.1; omega)))
          have HK3 := Lib.hid (HKA.out.belowB (hb1.out.mono hw2) hDl)
          clear HVA HWA HW2 HKA HNB HX ho1 hb1
          have y0 : W3.cell? ⟨w2.heap.size, 0, none⟩ = some (.int .i64 r1) := (cell_of_row _ _ 0 _ _ _ hbk1.out).trans rfl
          have y1 : W3.cell? ⟨w2.heap.size, 1, none⟩ = some (.int .i64 r2) := (cell_of_row _ _ 1 _ _ _ hbk1.out).trans rfl
          have y2 : W3.cell? ⟨w2.heap.size, 2, none⟩ = some (.int .i64 r3) := (cell_of_row _ _ 2 _ _ _ hbk1.out).trans rfl
          have y3 : W3.cell? ⟨w2.heap.size, 3, none⟩ = some (.string r4) := (cell_of_row _ _ 3 _ _ _ hbk1.out).trans rfl
          have y4 : W3.cell? ⟨w2.heap.size, 4, none⟩ = some (.string r5) := (cell_of_row _ _ 4 _ _ _ hbk1.out).trans rfl
          have y5 : W3.cell? ⟨w2.heap.size, 5, none⟩ = some (.string r6) := (cell_of_row _ _ 5 _ _ _ hbk1.out).trans rfl
          have y6 : W3.cell? ⟨w2.heap.size, 6, none⟩ = some (.int .i64 r7) := (cell_of_row _ _ 6 _ _ _ hbk1.out).trans rfl
          have y7 : W3.cell? ⟨w2.heap.size, 7, none⟩ = some (.int .i64 r8) := (cell_of_row _ _ 7 _ _ _ hbk1.out).trans rfl
          have hw3 : w.heap.size ≤ W3.heap.size := HK3.out.size
          have hbO : Below W3.heap.size W3 (W3.alloc (.cells #[.int .i64 r1, .int .i64 r2, .int .i64 r3, .string r4, .string r5, .string r6, .int .i64 r7, .int .i64 r8] 42 (0, 0))) := (Below.refl _ _).alloc (Nat.le_refl _) _
          have HVB := Lib.hid (HV3.out.below hbO)
          have HOB := Lib.hid (HW3.out.alloc (.cells #[.int .i64 r1, .int .i64 r2, .int .i64 r3, .string r4, .string r5, .string r6, .int .i64 r7, .int .i64 r8] 42 (0, 0)))
          have HKB := Lib.hid (HK3.out.trans (Kd.of_below hbO HV3.out.dw.lt))
          have HBO := Lib.hid (hbO.mono hw3)
          clear hbO
          go_wp2_with (at_builtin; refine wpList_appX rfl (.tmp 40) (.tmp 42) 50 42 _ 88 rfl Tryz.underlying50 info_rcJ rfl (by omega) (by omega) rcJ_len rcJ_one w.heap.size W3 HBO.out (Nat.le_trans hw3 (by simp)) (.slice A l.length c) l rfl HOB.out W3.heap.size 1 (r1, r2, r3, r4, r5, r6, r7, r8) #[.int .i64 r1, .int .i64 r2, .int .i64 r3, .string r4, .string r5, .string r6, .int .i64 r7, .int .i64 r8] 42 (0, 0) rfl (heap_alloc_new W3 _) rfl (by omega) ?_)
          intro v4 w4 HO4 HB4 HS4 HG4
          clear y0 y1 y2 y3 y4 y5 y6 y7
          have HV4 := Lib.hid (HVB.out.grownJ HOB.out hnw HG4.out)
          have HK4 := Lib.hid (HKB.out.grownJ HVB.out.dw HOB.out hnw (Nat.le_refl _) HG4.out)
          obtain ⟨A9, c9, rfl, _, _, _⟩ := HO4.out.rd rcJ_len
          have c3 := HV4.out.c3
          have f3 := HV4.out.fz 3
          have ew : IntKind.i64.wrap ((l.length : Int) + 1) = (l.length : Int) + 1 := IntWalk.i64_in _ (by omega)
          have hkj := (KK.refl [J] w4).set (b := J) (by simp) 3 (.int .i64 ((l.length : Int) + 1))
          have HV5 := Lib.hid (HV4.out.set ((l.length : Int) + 1))
          have HO5 := Lib.hid (HO4.out.kkJ HV4.out.bx hkj)
          have HK5 := Lib.hid (HK4.out.kkN HV4.out.dw.dk hkj HV4.out.nl hJ)
          clear hkj HVB HOB HKB HBO HB4 HS4 HG4 HV4 HK4 HO4 HV3 HW3 HK3 hbk1
          go_wp2_with fail
          clear c3 f3
          go_roundw
          case rel => exact ⟨l ++ [(r1, r2, r3, r4, r5, r6, r7, r8)], x.red a, A9, c9, by simp, by simp; omega, HXN2, Lib.hid (HO2.out.leM (by simp <;> omega)), HG2, Lib.hid (by rw [List.length_append]; exact HRE.out), Lib.hid (by rw [show ((l ++ [((r1, r2, r3, r4, r5, r6, r7, r8) : RcJ)]).length : Int) = (l.length : Int) + 1 by simp]; exact HV5.out), HO5, HK5⟩
          case measure => simp [slL] <;> omega
      · have HNX := jnext_any HV.out HO.out (by omega) HT.out hg a (by omega) (by omega) HP.out 0 0 0 ⟨#[]⟩ ⟨#[]⟩ ⟨#[]⟩ 0 0 false (fun W q => eisJ_none (rdJ_short (by unfold Ds.rdS; rw [if_neg hE]; decide)) HSZ.out W q)
        unfold recV at HNX
        have HRE := Lib.hid (opJ_err HE2.out HA.out hE)
        obtain ⟨z, hz⟩ : ∃ z, z = x.rdE a := ⟨_, rfl⟩
        rw [← hz] at HNX HRE hE
        have HNX := Lib.hid HNX
        have hz1 : (z != 0) = true := by rw [bne_iff_ne]; exact hE
        have HZ := Lib.hid hE
        clear hz hE
        go_wp2_with fail
        refine HNX.out.mono ?_
        rintro e w2 ⟨rfl, hj2, hk2⟩
        have hb : Below w2.heap.size w2 (w2.alloc (.cells #[.int .i64 0, .int .i64 0, .int .i64 0, .string ⟨#[]⟩, .string ⟨#[]⟩, .string ⟨#[]⟩, .int .i64 0, .int .i64 0] 42 (0, 0))) := (Below.refl _ _).alloc (Nat.le_refl _) _
        have HX := Lib.hid (blk_new w2 (.cells #[.int .i64 0, .int .i64 0, .int .i64 0, .string ⟨#[]⟩, .string ⟨#[]⟩, .string ⟨#[]⟩, .int .i64 0, .int .i64 0] 42 (0, 0)))
        have hw2 : w.heap.size ≤ w2.heap.size := Nat.le_trans HK.out.size hk2.size
        have hnb : ¬ InD D (w2.alloc (.cells #[.int .i64 0, .int .i64 0, .int .i64 0, .string ⟨#[]⟩, .string ⟨#[]⟩, .string ⟨#[]⟩, .int .i64 0, .int .i64 0] 42 (0, 0))) w2.heap.size := fun q => by have := hj2.dw.dk.new (q.back hb hj2.dw.lt); omega
        have hJ2 : J ≠ w2.heap.size := fun e => by have := lt_of_block hj2.bx; omega
        have HVA := Lib.hid (hj2.below hb)
        have HW2 := Lib.hid (HW.out.kdJ HV.out.dw hk2)
        have HWA := Lib.hid (HW2.out.kept hb)
        have HKA := Lib.hid ((HK.out.trans hk2).trans (Kd.of_below hb hj2.dw.lt))
        have HNB := Lib.hid hnb
        clear hb hnb hj2 hk2 HNX HV HW HK
        go_wp2_with (first
          | refine wpList_store_rowY rfl 42 (.tmp 12) (.tmp 28) rfl (w2.heap.size) #[.int .i64 0, .int .i64 0, .int .i64 0, .string ⟨#[]⟩, .string ⟨#[]⟩, .string ⟨#[]⟩, .int .i64 0, .int .i64 0] rfl rfl 42 _ HX.out (info_rec _ _ _ _ _ _ _ _) rfl (one_rec _ _ _ _ _ _ _ _) w2.heap.size _ (Below.refl _ _) (Nat.le_refl _) ?_)
        intro W3 hbk1 ho1 hb1 _
        have HV3 := Lib.hid (HVA.out.kk (g := w2.heap.size) ⟨hb1.out.os, hb1.out.tape, hb1.out.output, hb1.out.size, fun b _ hn => ho1.out b (by simpa using hn)⟩ HNB.out (by omega) hJ2)
        have HW3 := Lib.hid (HWA.out.same (fun g e => ho1.out g (fun q => by have := (own_type HW2.out e).2.1; omega)))
        have HK3 := Lib.hid (HKA.out.belowB (hb1.out.mono hw2) hDl)
        clear HVA HWA HW2 HKA HNB HX ho1 hb1
        go_wp2_with fail
        refine bodyPost_ret (results_t3K rfl _ _) rfl ?_
        rw [HRE.out]
        exact .inl ⟨HZ.out, rfl, HV3.out.dw, HK3.out⟩
end
end Go.Proofs.YtiflieaemgamkaaGreatDoor

namespace Go.Proofs.YtiflieaemgamkaaGreatDoor
open Go.RowKit Vi Ar Cm

set_option maxHeartbeats 1000000 in
theorem rec_inj8 {a b k : Int} {x o n : ByteArray} {t u : Int} {a2 b2 k2 : Int} {x2 o2 n2 : ByteArray} {t2 u2 : Int} (h : rok a b k x o n t u = true) (h' : rok a2 b2 k2 x2 o2 n2 t2 u2 = true) (e : recS a b k x o n t u = recS a2 b2 k2 x2 o2 n2 t2 u2) : a = a2 ∧ b = b2 ∧ k = k2 ∧ x = x2 ∧ o = o2 ∧ n = n2 ∧ t = t2 ∧ u = u2 := by
  have e3 : sealH (bodyR a b k x o n t u) = sealH (bodyR a2 b2 k2 x2 o2 n2 t2 u2) := by rw [← (rec_front h).2, ← (rec_front h').2, e]
  have e4 : bodyR a b k x o n t u = bodyR a2 b2 k2 x2 o2 n2 t2 u2 := by
    have q1 := (seal_is (bodyR a b k x o n t u)).2
    have q2 := (seal_is (bodyR a2 b2 k2 x2 o2 n2 t2 u2)).2
    rw [e3] at q1
    rw [← q1, q2]
  obtain ⟨_, a1, _, c1, _, d1, _, x1, o1, n1, _, t1, _, u1⟩ := rok_bd h
  obtain ⟨_, a1', _, c1', _, d1', _, x1', o1', n1', _, t1', _, u1'⟩ := rok_bd h'
  obtain ⟨q1, q2, q3, q4, q5, q6, q7, q8, g1, g2, g3, g4, g5, g6, g7, g8, _⟩ := rec_reads h (bodyR a b k x o n t u) 1 (fun a' b' k' t' u' ha hb hk ht hu => bodyR_tail a' b' k' t' u' ha hb hk ht hu) 4294967296 4294967296 4294967296 4294967296 4294967296 4294967296 4294967296 4294967296 (by omega) (by omega) (by omega) (by omega) (by omega) (by omega) (by omega) (by omega) (by omega) (by omega) (by omega) (by omega) (by omega) (by omega) (by omega) (by omega)
  obtain ⟨p1, p2, p3, p4, p5, p6, p7, p8, f1, f2, f3, f4, f5, f6, f7, f8, _⟩ := rec_reads h' (bodyR a b k x o n t u) 1 (fun a' b' k' t' u' ha hb hk ht hu => by rw [e4]; exact bodyR_tail a' b' k' t' u' ha hb hk ht hu) 4294967296 4294967296 4294967296 4294967296 4294967296 4294967296 4294967296 4294967296 (by omega) (by omega) (by omega) (by omega) (by omega) (by omega) (by omega) (by omega) (by omega) (by omega) (by omega) (by omega) (by omega) (by omega) (by omega) (by omega)
  rw [g1] at f1; injection f1 with m1 f1; injection f1 with z1 _; subst m1 z1
  rw [g2] at f2; injection f2 with m2 f2; injection f2 with z2 _; subst m2 z2
  rw [g3] at f3; injection f3 with m3 f3; injection f3 with z3 _; subst m3 z3
  rw [g4] at f4; injection f4 with m4 f4; injection f4 with z4 _; subst m4 z4
  rw [g5] at f5; injection f5 with m5 f5; injection f5 with z5 _; subst m5 z5
  rw [g6] at f6; injection f6 with m6 f6; injection f6 with z6 _; subst m6 z6
  rw [g7] at f7; injection f7 with m7 f7; injection f7 with z7 _; subst m7 z7
  rw [g8] at f8; injection f8 with m8 f8; subst m8
  exact ⟨rfl, rfl, rfl, rfl, rfl, rfl, rfl, rfl⟩
theorem rec_inj {r r' : RcJ} (h : rokJ r = true) (h' : rokJ r' = true) (e : recJ r = recJ r') : r = r' := by
  obtain ⟨a, b, k, x, o, n, t, u⟩ := r
  obtain ⟨a2, b2, k2, x2, o2, n2, t2, u2⟩ := r'
  obtain ⟨rfl, rfl, rfl, rfl, rfl, rfl, rfl, rfl⟩ := rec_inj8 h h' e
  rfl
theorem rdJ_rec {ep k : Int} {r : RcJ} (h : rokJ r = true) (h1 : r.1 = ep) (h2 : r.2.1 = k) : rdJ (recJ r) ep k = some r := by
  cases q : rdJ (recJ r) ep k with
  | none => exact absurd ⟨h1, h2⟩ (rdJ_none q r h rfl)
  | some r' =>
    obtain ⟨g1, g2, _⟩ := rdJ_some q
    rw [rec_inj h g1 g2]
theorem rdJ_noz (ep k : Int) : rdJ noZ ep k = none := by
  cases q : rdJ noZ ep k with
  | none => rfl
  | some r =>
    obtain ⟨g1, g2, _⟩ := rdJ_some q
    exact absurd ⟨_, _, _, _, _, _, _, _, g1, g2⟩ noz_norec
theorem pl40 (k : Nat) : plA 40 1 (k : Int) = 39 - (k : Int) := by
  have h1 : Ar.fs 40 1 = 21 := by decide
  have h2 : Ar.hf 40 = 19 := by decide
  unfold plA
  rw [h1, h2]
  omega
/-- the second half of a disk of 40 sectors holds these records of an epoch, and no more -/
structure HasJ (S : List ByteArray) (ep : Int) (L : List RcJ) : Prop where
  len : S.length = 40
  rc : ∀ (i : Nat) (r : RcJ), L[i]? = some r → S[39 - i]? = some (recJ r) ∧ rokJ r = true ∧ r.1 = ep ∧ r.2.1 = (i : Int)
  nx : ∃ s, S[39 - L.length]? = some s ∧ rdJ s ep (L.length : Int) = none
/-- so, and the next sector is empty -/
structure GJ (S : List ByteArray) (ep : Int) (L : List RcJ) : Prop where
  len : S.length = 40
  rc : ∀ (i : Nat) (r : RcJ), L[i]? = some r → S[39 - i]? = some (recJ r) ∧ rokJ r = true ∧ r.1 = ep ∧ r.2.1 = (i : Int)
  nx : S[39 - L.length]? = some noZ
theorem GJ.has {S : List ByteArray} {ep : Int} {L : List RcJ} (h : GJ S ep L) : HasJ S ep L := ⟨h.len, h.rc, noZ, h.nx, rdJ_noz _ _⟩
theorem GJ.new (ep : Int) : GJ (List.replicate 40 noZ) ep [] := ⟨List.length_replicate, fun i r h => by simp at h, by decide +kernel⟩
theorem rd40 {S : List ByteArray} {ar op : Int} (k : Nat) (hS : S.length = 40) (hk : k ≤ 39) {s : ByteArray} (h : S[39 - k]? = some s) : Ds.rdE ⟨S, [], ar, false, op⟩ (39 - (k : Int)) = 0 ∧ Ds.rdS ⟨S, [], ar, false, op⟩ (39 - (k : Int)) = s := by
  have e : Ds.rdE ⟨S, [], ar, false, op⟩ (39 - (k : Int)) = 0 := by
    unfold Ds.rdE
    dsimp only
    rw [if_neg Bool.false_ne_true, if_pos (by rw [hS]; omega)]
  refine ⟨e, ?_⟩
  unfold Ds.rdS
  rw [if_pos e]
  show (S[(39 - (k : Int)).toNat]?).getD ⟨#[]⟩ = s
  rw [show (39 - (k : Int)).toNat = 39 - k by omega, h]
  rfl
theorem opJ_has {S : List ByteArray} {ep ar : Int} {L : List RcJ} (h : HasJ S ep L) (hL : L.length ≤ 30) : ∀ (rest acc : List RcJ) (f : Nat) (op : Int), L = acc ++ rest → rest.length + 1 ≤ f → ∃ op', op ≤ op' ∧ op' ≤ op + (rest.length : Int) + 1 ∧ opJ 1 ep f ⟨S, [], ar, false, op⟩ acc = (⟨S, [], ar, false, op'⟩, L, 0)
  | [], acc, 0, _, _, hf => by simp at hf
  | _ :: _, acc, 0, _, _, hf => by simp at hf
  | [], acc, f + 1, op, e, _ => by
    rw [List.append_nil] at e
    subst e
    obtain ⟨s, h1, h2⟩ := h.nx
    obtain ⟨g1, g2⟩ := rd40 (ar := ar) (op := op) L.length h.len (by omega) h1
    have ha : plA ((S.length : Nat) : Int) 1 (L.length : Int) = 39 - (L.length : Int) := by rw [h.len]; exact pl40 _
    refine ⟨op + 1, by omega, by simp, ?_⟩
    have hq := opJ_none (hh := 1) (ep := ep) (f := f) (d := ⟨S, [], ar, false, op⟩) (l := L) rfl ha.symm g1 (by rw [g2]; exact h2)
    rw [hq]
    unfold Ds.red
    rw [if_pos g1]
  | r :: rest, acc, f + 1, op, e, hf => by
    have hr : L[acc.length]? = some r := by rw [e]; simp
    obtain ⟨h1, h2, h3, h4⟩ := h.rc _ _ hr
    have hle : acc.length < L.length := by
      by_cases q : acc.length < L.length
      · exact q
      · rw [List.getElem?_eq_none (by omega)] at hr; cases hr
    obtain ⟨g1, g2⟩ := rd40 (ar := ar) (op := op) acc.length h.len (by omega) h1
    have ha : plA ((S.length : Nat) : Int) 1 (acc.length : Int) = 39 - (acc.length : Int) := by rw [h.len]; exact pl40 _
    obtain ⟨op', o1, o2, hq⟩ := opJ_has h hL rest (acc ++ [r]) f (op + 1) (by rw [e]; simp) (by simp at hf; omega)
    refine ⟨op', by omega, by simp; omega, ?_⟩
    have hq2 := opJ_some (hh := 1) (ep := ep) (f := f) (d := ⟨S, [], ar, false, op⟩) (l := acc) rfl ha.symm g1 (by rw [g2]; exact rdJ_rec h2 h3 h4)
    rw [← hq2, ← hq]
    unfold Ds.red
    rw [if_pos g1]
theorem stp_wr {S : List ByteArray} {C : List Wr} {ar op i : Int} {s : ByteArray} (hi : 0 ≤ i ∧ i < (S.length : Int)) (hs : s.size = 128) : jop ⟨S, C, ar, false, op⟩ (some (i, s)) = (⟨S, wrtC ar C i s, stpF ar, stpD ar, stpO op ar⟩, stpE ar) := by
  have e : dckE S.length i s = 0 := by unfold dckE; rw [if_pos hi, if_pos hs]
  show (Ds.wrt ⟨S, C, ar, false, op⟩ i s, Ds.wrE ⟨S, C, ar, false, op⟩ i s) = _
  unfold Ds.wrt Ds.wrE
  dsimp only
  rw [if_neg Bool.false_ne_true, if_neg Bool.false_ne_true, e, if_neg (fun h => h rfl), if_neg (fun h => h rfl)]
theorem stp_fl {S : List ByteArray} {C : List Wr} {ar op : Int} : jop ⟨S, C, ar, false, op⟩ none = (⟨flsS ar S C, stpC ar C, stpF ar, stpD ar, stpO op ar⟩, stpE ar) := by
  show (Ds.fls ⟨S, C, ar, false, op⟩, Ds.flE ⟨S, C, ar, false, op⟩) = _
  unfold Ds.fls Ds.flE
  dsimp only
  rw [if_neg Bool.false_ne_true, if_neg Bool.false_ne_true]
theorem jst_up {o : Option Wr} {r : List (Option Wr)} {d d' : Ds} {z : Int} (h : jop d o = (d', z)) (hz : z ≠ 0) : jst (o :: r) d = (d', z) := by rw [jst, h, if_pos hz]
section
variable {S : List ByteArray} {op ep : Int} {L : List RcJ} {r : RcJ}
theorem japS_go {a1 a2 ct k : Int} {x o y : ByteArray} {t u : Int} (h1 : 0 ≤ a1 ∧ a1 < (S.length : Int)) (h2 : 0 ≤ a2 ∧ a2 < (S.length : Int)) (hr : rok ep ct k x o y t u = true) :
    japS ⟨S, [], 0, false, op⟩ a1 a2 ep ct k x o y t u = (⟨(S.set a1.toNat noZ).set a2.toNat (recS ep ct k x o y t u), [], 0, false, op + 1 + 1 + 1 + 1⟩, 0) := by
  have e1 := wrt0 (S := S) (C := []) (op := op) h1 noz_size
  have l1 : (flsS 0 S ([] ++ [(a1, noZ)])).length = S.length := flsS_len _ _ _
  unfold japS
  rw [jst_go e1, jst_go fls0, jst_go (wrt0 (by rw [l1]; exact h2) (rec_size hr)), jst_go fls0]
  rfl
theorem GJ.snoc (h : GJ S ep L) (hL : L.length ≤ 30) (hr : rokJ r = true) (h1 : r.1 = ep) (h2 : r.2.1 = (L.length : Int)) : GJ ((S.set (39 - (L.length + 1)) noZ).set (39 - L.length) (recJ r)) ep (L ++ [r]) := by
  refine ⟨by simp [h.len], fun i q hq => ?_, ?_⟩
  · by_cases e : i < L.length
    · rw [List.getElem?_append_left e] at hq
      obtain ⟨g1, g2⟩ := h.rc i q hq
      refine ⟨?_, g2⟩
      rw [List.getElem?_set_ne (by omega), List.getElem?_set_ne (by omega)]
      exact g1
    · have hi : i = L.length := by
        by_cases e2 : i < (L ++ [r]).length
        · simp at e2; omega
        · rw [List.getElem?_eq_none (by omega)] at hq; cases hq
      subst hi
      rw [List.getElem?_append_right (Nat.le_refl _), Nat.sub_self] at hq
      injection hq with hq
      subst hq
      refine ⟨?_, hr, h1, h2⟩
      rw [List.getElem?_set_self (by simp [h.len]; omega)]
  · rw [show (L ++ [r]).length = L.length + 1 by simp, List.getElem?_set_ne (by omega), List.getElem?_set_self (by rw [h.len]; omega)]
theorem HasJ.next (h : HasJ S ep L) (hL : L.length ≤ 30) (X : ByteArray) : HasJ (S.set (39 - (L.length + 1)) X) ep L := by
  obtain ⟨s, g1, g2⟩ := h.nx
  refine ⟨by simp [h.len], fun i q hq => ?_, s, ?_, g2⟩
  · have hi : i < L.length := by
      by_cases e : i < L.length
      · exact e
      · rw [List.getElem?_eq_none (by omega)] at hq; cases hq
    obtain ⟨k1, k2⟩ := h.rc i q hq
    exact ⟨by rw [List.getElem?_set_ne (by omega)]; exact k1, k2⟩
  · rw [List.getElem?_set_ne (by omega)]
    exact g1
theorem GJ.over (h : GJ S ep L) (hL : L.length ≤ 11) (j : Nat) (hj : j < 19) (hl : L.length < j) (s : ByteArray) : GJ (overS S (39 - (j : Int)) s) ep L := by
  unfold overS
  split
  · rw [show (39 - (j : Int)).toNat = 39 - j by omega]
    refine ⟨by simp [h.len], fun i q hq => ?_, ?_⟩
    · have hi : i < L.length := by
        by_cases e : i < L.length
        · exact e
        · rw [List.getElem?_eq_none (by omega)] at hq; cases hq
      obtain ⟨k1, k2⟩ := h.rc i q hq
      exact ⟨by rw [List.getElem?_set_ne (by omega)]; exact k1, k2⟩
    · rw [List.getElem?_set_ne (by omega)]
      exact h.nx
  · exact h
/-- what a crash in an Append leaves -/
theorem last_all (h : GJ S ep L) (hL : L.length ≤ 11) {step a1 a2 : Int} (ks : List Int) (h0 : 0 ≤ step) (h4 : step ≤ 4) (ha1 : a1 = 39 - ((L.length : Int) + 1)) (ha2 : a2 = 39 - (L.length : Int)) (hr : rokJ r = true) (h1 : r.1 = ep) (h2 : r.2.1 = (L.length : Int)) (Z : Ds × Int)
    (hZ : jst [some (a1, noZ), none, some (a2, recJ r), none] ⟨S, [], step, false, op⟩ = Z) :
    (Z.2 ≠ 0 ∧ HasJ (Z.1.crash ks).S ep L) ∨ (Z.2 ≠ 2 ∧ HasJ (Z.1.crash ks).S ep (L ++ [r])) := by
  have b1 : 0 ≤ a1 ∧ a1 < (S.length : Int) := by rw [h.len]; omega
  have b2 : 0 ≤ a2 ∧ a2 < (S.length : Int) := by rw [h.len]; omega
  have t1 : a1.toNat = 39 - (L.length + 1) := by omega
  have t2 : a2.toNat = 39 - L.length := by omega
  have hs : (recJ r).size = 128 := rec_size hr
  have hA : HasJ (S.set (39 - (L.length + 1)) noZ) ep L := h.has.next (by omega) _
  have hB : HasJ ((S.set (39 - (L.length + 1)) noZ).set (39 - L.length) (recJ r)) ep (L ++ [r]) := (h.snoc (by omega) hr h1 h2).has
  have hc : step = 0 ∨ step = 1 ∨ step = 2 ∨ step = 3 ∨ step = 4 := by omega
  have l1 : (S.set a1.toNat noZ).length = S.length := List.length_set
  rcases hc with rfl | rfl | rfl | rfl | rfl
  · have e1 : jop ⟨S, [], 0, false, op⟩ (some (a1, noZ)) = (⟨S, [(a1, noZ)], 0, false, op + 1⟩, 0) := stp_wr b1 noz_size
    have e2 : jop ⟨S, [(a1, noZ)], 0, false, op + 1⟩ none = (⟨S.set a1.toNat noZ, [], 0, false, op + 1 + 1⟩, 0) := stp_fl
    have e3 : jop ⟨S.set a1.toNat noZ, [], 0, false, op + 1 + 1⟩ (some (a2, (recJ r))) = (⟨S.set a1.toNat noZ, [(a2, (recJ r))], 0, false, op + 1 + 1 + 1⟩, 0) := stp_wr (by rw [l1]; exact b2) hs
    have e4 : jop ⟨S.set a1.toNat noZ, [(a2, recJ r)], 0, false, op + 1 + 1 + 1⟩ none = (⟨(S.set a1.toNat noZ).set a2.toNat (recJ r), [], 0, false, op + 1 + 1 + 1 + 1⟩, 0) := stp_fl
    rw [jst_go e1, jst_go e2, jst_go e3, jst_go e4] at hZ
    subst hZ
    refine .inr ⟨(show (0 : Int) ≠ 2 from by decide), ?_⟩
    show HasJ ((S.set a1.toNat noZ).set a2.toNat (recJ r)) ep (L ++ [r])
    rw [t1, t2]
    exact hB
  · have e1 : jop ⟨S, [], 1, false, op⟩ (some (a1, noZ)) = (⟨S, [], 0, true, op⟩, 7) := stp_wr b1 noz_size
    rw [jst_up e1 (by decide)] at hZ
    subst hZ
    exact .inl ⟨(show (7 : Int) ≠ 0 from by decide), h.has⟩
  · have e1 : jop ⟨S, [], 2, false, op⟩ (some (a1, noZ)) = (⟨S, [(a1, noZ)], 1, false, op + 1⟩, 0) := stp_wr b1 noz_size
    have e2 : jop ⟨S, [(a1, noZ)], 1, false, op + 1⟩ none = (⟨S, [(a1, noZ)], 0, true, op + 1⟩, 7) := stp_fl
    rw [jst_go e1, jst_up e2 (by decide)] at hZ
    subst hZ
    refine .inl ⟨(show (7 : Int) ≠ 0 from by decide), ?_⟩
    show HasJ (if inK ks 0 = true then S.set a1.toNat noZ else S) ep L
    split
    · rw [t1]; exact hA
    · exact h.has
  · have e1 : jop ⟨S, [], 3, false, op⟩ (some (a1, noZ)) = (⟨S, [(a1, noZ)], 2, false, op + 1⟩, 0) := stp_wr b1 noz_size
    have e2 : jop ⟨S, [(a1, noZ)], 2, false, op + 1⟩ none = (⟨S.set a1.toNat noZ, [], 1, false, op + 1 + 1⟩, 0) := stp_fl
    have e3 : jop ⟨S.set a1.toNat noZ, [], 1, false, op + 1 + 1⟩ (some (a2, (recJ r))) = (⟨S.set a1.toNat noZ, [], 0, true, op + 1 + 1⟩, 7) := stp_wr (by rw [l1]; exact b2) hs
    rw [jst_go e1, jst_go e2, jst_up e3 (by decide)] at hZ
    subst hZ
    refine .inl ⟨(show (7 : Int) ≠ 0 from by decide), ?_⟩
    show HasJ (S.set a1.toNat noZ) ep L
    rw [t1]
    exact hA
  · have e1 : jop ⟨S, [], 4, false, op⟩ (some (a1, noZ)) = (⟨S, [(a1, noZ)], 3, false, op + 1⟩, 0) := stp_wr b1 noz_size
    have e2 : jop ⟨S, [(a1, noZ)], 3, false, op + 1⟩ none = (⟨S.set a1.toNat noZ, [], 2, false, op + 1 + 1⟩, 0) := stp_fl
    have e3 : jop ⟨S.set a1.toNat noZ, [], 2, false, op + 1 + 1⟩ (some (a2, (recJ r))) = (⟨S.set a1.toNat noZ, [(a2, (recJ r))], 1, false, op + 1 + 1 + 1⟩, 0) := stp_wr (by rw [l1]; exact b2) hs
    have e4 : jop ⟨S.set a1.toNat noZ, [(a2, recJ r)], 1, false, op + 1 + 1 + 1⟩ none = (⟨S.set a1.toNat noZ, [(a2, recJ r)], 0, true, op + 1 + 1 + 1⟩, 7) := stp_fl
    rw [jst_go e1, jst_go e2, jst_go e3, jst_up e4 (by decide)] at hZ
    subst hZ
    show ((7 : Int) ≠ 0 ∧ HasJ (if inK ks 0 = true then (S.set a1.toNat noZ).set a2.toNat (recJ r) else S.set a1.toNat noZ) ep L) ∨ ((7 : Int) ≠ 2 ∧ HasJ (if inK ks 0 = true then (S.set a1.toNat noZ).set a2.toNat (recJ r) else S.set a1.toNat noZ) ep (L ++ [r]))
    split
    · exact .inr ⟨by decide, by rw [t1, t2]; exact hB⟩
    · exact .inl ⟨by decide, by rw [t1]; exact hA⟩
end
theorem jst_ok {k : Nat} : ∀ (l : List (Option Wr)) (d : Ds), DsOk k d → ∀ m, l.length ≤ m → DsOk (k + m) (jst l d).1
  | [], d, h, m, _ => ⟨h.s1, h.s2, by have := h.c; show d.C.length ≤ _; omega, h.a1, h.a2, h.o1, by have := h.o2; show d.op ≤ _; omega⟩
  | o :: r, d, h, 0, hm => by simp at hm
  | o :: r, d, h, m + 1, hm => by
    have h1 := jop_ok h o
    rw [jst]
    split
    · exact ⟨h1.s1, h1.s2, by have := h1.c; omega, h1.a1, h1.a2, h1.o1, by have := h1.o2; omega⟩
    · have := jst_ok (k := k + 1) r _ h1 m (by simp at hm; omega)
      rw [show k + (m + 1) = k + 1 + m by omega]
      exact this
theorem jst_good : ∀ (l : List (Option Wr)) (d : Ds), GoodD d → GoodD (jst l d).1
  | [], d, h => h
  | o :: r, d, h => by
    have h1 := h.jop o
    rw [jst]
    split
    · exact h1
    · exact jst_good r _ h1
end Go.Proofs.YtiflieaemgamkaaGreatDoor

namespace Go.Proofs.YtiflieaemgamkaaGreatDoor
open Go.RowKit Vi Ar Cm

theorem run_neq_rc_no (p1 p2 p3 : Int) (p4 p5 p6 : ByteArray) (p7 p8 : Int) (W : World) :
    (binOp .neq 42 (.agg #[.int .i64 p1, .int .i64 p2, .int .i64 p3, .string p4, .string p5, .string p6, .int .i64 p7, .int .i64 p8]) (.agg #[.int .i64 p1, .int .i64 p2, .int .i64 p3, .string p4, .string p5, .string p6, .int .i64 p7, .int .i64 p8])).run Tryz.prog W = .ok (.bool false) W := by
  simp [go_sem]
set_option maxRecDepth 100000 in
set_option maxHeartbeats 2000000 in
theorem rsame38_no (A : Option Addr) (n c : Nat) (A2 : Option Addr) (n2 c2 : Nat) (w : World) (h : n ≠ n2) :
    Calls Tryz.prog 25 #[.slice A n c, .slice A2 n2 c2] w fun e w' => e = .returned (.bool false) ∧ Below w.heap.size w w' := by
  have d1 : ((n : Int) != (n2 : Int)) = true := by simp; omega
  have d2 : (n != n2) = true := by simp; exact h
  go_enter Tryz.func25, Tryz.ntmps25
  go_wp2_with fail
  go_ret
  exact ⟨rfl, Below.refl _ _⟩
set_option maxRecDepth 100000 in
set_option maxHeartbeats 4000000 in
theorem rsame38_yes (A : Option Addr) (n c : Nat) (l : List RcJ) (A2 : Option Addr) (c2 : Nat) (w : World) (h : RdX rcJ 8 w A n l) (h2 : RdX rcJ 8 w A2 n l) (hn : n ≤ 100000) :
    Calls Tryz.prog 25 #[.slice A n c, .slice A2 n c2] w fun e w' => e = .returned (.bool true) ∧ Below w.heap.size w w' := by
  have H := Lib.hid h
  have H2 := Lib.hid h2
  have L := Lib.hid h.1
  have HB1 := Lib.hid (Below.refl w.heap.size w)
  clear h h2
  have d1 : ((n : Int) != (n : Int)) = false := by simp
  go_enter Tryz.func25, Tryz.ntmps25
  go_wp2_with fail
  clear d1
  go_loopw [13] (fun i wr => ∃ k : Nat, i = .int .i64 (k : Int) ∧ k ≤ n ∧ Below w.heap.size w wr) (fun i _ => n - (intOf i).toNat)
  case atStart => exact ⟨0, rfl, Nat.zero_le _, HB1.out⟩
  case round =>
    clear HB1
    obtain ⟨k, rfl, hk, hb⟩ := hrel
    have HB := Lib.hid hb
    clear hb
    by_cases hlt : k < n
    · have hd1 : decide ((k : Int) < (n : Int)) = true := decide_eq_true (by omega)
      have hl : k < l.length := by rw [L.out]; exact hlt
      obtain ⟨b, off, _, rfl, hbb, _⟩ := (H.out.below HB.out).at hlt
      obtain ⟨b2, off2, _, rfl, hbb2, _⟩ := (H2.out.below HB.out).at hlt
      obtain ⟨x, hx⟩ : ∃ x, l[k] = x := ⟨_, rfl⟩
      have HX := Lib.hid (show l[k]? = some x by rw [List.getElem?_eq_getElem hl, hx])
      clear hx
      obtain ⟨x1, x2, x3, x4, x5, x6, x7, x8⟩ := x
      have hi0 : (0 : Int) ≤ (k : Int) := by omega
      have hw1 : IntKind.i64.wrap ((k : Int) + 1) = (k : Int) + 1 := IntWalk.i64_in _ (by omega)
      have hnq := fun W => run_neq_rc_no x1 x2 x3 x4 x5 x6 x7 x8 W
      have hc101 : wr.cell? ⟨b, off + k * 8, none⟩ = some (.int .i64 x1) := (H.out.below HB.out).cellAt HX.out hlt 0 _ rfl
      have hc102 : wr.cell? ⟨b, off + k * 8 + 1, none⟩ = some (.int .i64 x2) := (H.out.below HB.out).cellAt HX.out hlt 1 _ rfl
      have hc103 : wr.cell? ⟨b, off + k * 8 + 2, none⟩ = some (.int .i64 x3) := (H.out.below HB.out).cellAt HX.out hlt 2 _ rfl
      have hc104 : wr.cell? ⟨b, off + k * 8 + 3, none⟩ = some (.string x4) := (H.out.below HB.out).cellAt HX.out hlt 3 _ rfl
      have hc105 : wr.cell? ⟨b, off + k * 8 + 4, none⟩ = some (.string x5) := (H.out.below HB.out).cellAt HX.out hlt 4 _ rfl
      have hc106 : wr.cell? ⟨b, off + k * 8 + 5, none⟩ = some (.string x6) := (H.out.below HB.out).cellAt HX.out hlt 5 _ rfl
      have hc107 : wr.cell? ⟨b, off + k * 8 + 6, none⟩ = some (.int .i64 x7) := (H.out.below HB.out).cellAt HX.out hlt 6 _ rfl
      have hc108 : wr.cell? ⟨b, off + k * 8 + 7, none⟩ = some (.int .i64 x8) := (H.out.below HB.out).cellAt HX.out hlt 7 _ rfl
      have hc201 : wr.cell? ⟨b2, off2 + k * 8, none⟩ = some (.int .i64 x1) := (H2.out.below HB.out).cellAt HX.out hlt 0 _ rfl
      have hc202 : wr.cell? ⟨b2, off2 + k * 8 + 1, none⟩ = some (.int .i64 x2) := (H2.out.below HB.out).cellAt HX.out hlt 1 _ rfl
      have hc203 : wr.cell? ⟨b2, off2 + k * 8 + 2, none⟩ = some (.int .i64 x3) := (H2.out.below HB.out).cellAt HX.out hlt 2 _ rfl
      have hc204 : wr.cell? ⟨b2, off2 + k * 8 + 3, none⟩ = some (.string x4) := (H2.out.below HB.out).cellAt HX.out hlt 3 _ rfl
      have hc205 : wr.cell? ⟨b2, off2 + k * 8 + 4, none⟩ = some (.string x5) := (H2.out.below HB.out).cellAt HX.out hlt 4 _ rfl
      have hc206 : wr.cell? ⟨b2, off2 + k * 8 + 5, none⟩ = some (.string x6) := (H2.out.below HB.out).cellAt HX.out hlt 5 _ rfl
      have hc207 : wr.cell? ⟨b2, off2 + k * 8 + 6, none⟩ = some (.int .i64 x7) := (H2.out.below HB.out).cellAt HX.out hlt 6 _ rfl
      have hc208 : wr.cell? ⟨b2, off2 + k * 8 + 7, none⟩ = some (.int .i64 x8) := (H2.out.below HB.out).cellAt HX.out hlt 7 _ rfl
      go_wp2_with fail
      have hr101 := fun d os => cell_regrown hc101 d os
      have hr102 := fun d os => cell_regrown hc102 d os
      have hr103 := fun d os => cell_regrown hc103 d os
      have hr104 := fun d os => cell_regrown hc104 d os
      have hr105 := fun d os => cell_regrown hc105 d os
      have hr106 := fun d os => cell_regrown hc106 d os
      have hr107 := fun d os => cell_regrown hc107 d os
      have hr108 := fun d os => cell_regrown hc108 d os
      have hr201 := fun d os => cell_regrown hc201 d os
      have hr202 := fun d os => cell_regrown hc202 d os
      have hr203 := fun d os => cell_regrown hc203 d os
      have hr204 := fun d os => cell_regrown hc204 d os
      have hr205 := fun d os => cell_regrown hc205 d os
      have hr206 := fun d os => cell_regrown hc206 d os
      have hr207 := fun d os => cell_regrown hc207 d os
      have hr208 := fun d os => cell_regrown hc208 d os
      refine wp_region_quiet_below (by kernel_rfl) (by kernel_rfl) ?_
      repeat (any_goals (first | go_big_quiet_step (fail) | quiet_step (fail)))
      refine wpQuiet_nil ?_
      intro w11 hw11
      have hb11 := below_anyY hw11
      clear hw11 hr101 hr102 hr103 hr104 hr105 hr106 hr107 hr108 hr201 hr202 hr203 hr204 hr205 hr206 hr207 hr208
      clear hc101 hc102 hc103 hc104 hc105 hc106 hc107 hc108 hc201 hc202 hc203 hc204 hc205 hc206 hc207 hc208
      have HB113 := Lib.hid (HB.out.trans (hb11.mono HB.out.size))
      clear hb11 HB
      go_wp2_with fail
      go_roundw
      case rel => exact ⟨k + 1, by go_num, by omega, HB113.out⟩
      case measure => simp [intOf] <;> omega
    · have hd1 : decide ((k : Int) < (n : Int)) = false := decide_eq_false (by omega)
      go_wp2_with fail
      go_ret
      exact ⟨rfl, HB.out⟩
end Go.Proofs.YtiflieaemgamkaaGreatDoor

namespace Go.Proofs.YtiflieaemgamkaaGreatDoor
open Go.RowKit Vi Ar Cm

theorem pl40i (k : Int) : plA 40 1 k = 39 - k := by
  have h1 : Ar.fs 40 1 = 21 := by decide
  have h2 : Ar.hf 40 = 19 := by decide
  unfold plA
  rw [h1, h2]
  omega
theorem pl40r {S : List ByteArray} (hS : S.length = 40) (k : Int) (h0 : 0 ≤ k) (h1 : k < 19) : pl (S.length : Int) 1 k = .tuple #[.int .i64 (39 - k), .int .i64 0] := by
  have e : (S.length : Int) = 40 := by rw [hS]; rfl
  have h2 : Ar.hf 40 = 19 := by decide
  rw [e, ← pl40i k]
  exact pl_in h0 (by rw [h2]; exact h1)
section
variable {n : Nat} {w0 : World} {D J : Nat} {S : List ByteArray} {op ep step : Int} {L : List RcJ} {w : World} {k0 : Nat}
/-- what Append leaves of a disk that is up -/
def Jap (n : Nat) (w0 : World) (D J : Nat) (S : List ByteArray) (op ep : Int) (L : List RcJ) (r : RcJ) (w : World) (e : Ending) (w' : World) : Prop :=
  (e = .returned (.int .i64 2) ∧ JW n w0 D J ⟨S, [], 0, false, op⟩ 1 ep (L.length : Int) w' ∧ Kj D J w w') ∨
  (e = .returned (.int .i64 0) ∧ Kj D J w w' ∧ ∃ S', JW n w0 D J ⟨S', [], 0, false, op + 4⟩ 1 ep ((L.length : Int) + 1) w' ∧ GJ S' ep (L ++ [r]) ∧ GoodD ⟨S', [], 0, false, op + 4⟩)
theorem jap40_any (h : JW n w0 D J ⟨S, [], 0, false, op⟩ 1 ep (L.length : Int) w) (hJ : GJ S ep L) (hg : GoodD ⟨S, [], 0, false, op⟩) (ok : DsOk k0 ⟨S, [], 0, false, op⟩) (hk0 : k0 ≤ 890) (hT : Tab w) (hL : L.length ≤ 11) (e0 s0 k : Int) (x o y : ByteArray) (t u : Int) (hx : x.size ≤ maxLen) :
    Calls Tryz.prog 17 #[.pointer (some ⟨J, 0, none⟩), .agg #[.int .i64 e0, .int .i64 s0, .int .i64 k, .string x, .string o, .string y, .int .i64 t, .int .i64 u]] w (Jap n w0 D J S op ep L (ep, (L.length : Int), k, x, o, y, t, u) w) := by
  cases hr : rok ep (L.length : Int) k x o y t u with
  | false =>
    refine (jap_no h ok hk0 hT e0 s0 k x o y t u hx hr (by omega) (by omega)).mono ?_
    rintro e w' ⟨rfl, hj, hk⟩
    exact .inl ⟨rfl, hj, hk⟩
  | true =>
    have e1 : pl (((⟨S, [], 0, false, op⟩ : Ds).S.length : Nat) : Int) 1 ((L.length : Int) + 1) = .tuple #[.int .i64 (39 - ((L.length : Int) + 1)), .int .i64 0] := pl40r hJ.len _ (by omega) (by omega)
    have e2 : pl (((⟨S, [], 0, false, op⟩ : Ds).S.length : Nat) : Int) 1 (L.length : Int) = .tuple #[.int .i64 (39 - (L.length : Int)), .int .i64 0] := pl40r hJ.len _ (by omega) (by omega)
    have hz := japS_go (S := S) (op := op) (ep := ep) (a1 := 39 - ((L.length : Int) + 1)) (a2 := 39 - (L.length : Int)) (ct := (L.length : Int)) (k := k) (x := x) (o := o) (y := y) (t := t) (u := u) (by rw [hJ.len]; omega) (by rw [hJ.len]; omega) hr
    have hgd := jst_good [some (39 - ((L.length : Int) + 1), noZ), none, some (39 - (L.length : Int), recS ep (L.length : Int) k x o y t u), none] _ hg
    have hgd2 : GoodD (japS ⟨S, [], 0, false, op⟩ (39 - ((L.length : Int) + 1)) (39 - (L.length : Int)) ep (L.length : Int) k x o y t u).1 := hgd
    have hs := hJ.snoc (by omega) (r := (ep, (L.length : Int), k, x, o, y, t, u)) hr rfl rfl
    have t1 : (39 - ((L.length : Int) + 1)).toNat = 39 - (L.length + 1) := by omega
    have t2 : (39 - (L.length : Int)).toNat = 39 - L.length := by omega
    refine (jap_yes h ok hk0 hT e0 s0 k x o y t u _ _ hr e1 e2 (by omega) (by omega)).mono ?_
    rintro e w' ⟨rfl, hj, hk⟩
    rw [hz, t1, t2] at hj hgd2
    rw [hz]
    have e4 : op + 1 + 1 + 1 + 1 = op + 4 := by omega
    dsimp only at hj hgd2
    rw [e4] at hj hgd2
    exact .inr ⟨rfl, hk, _, hj, hs, hgd2⟩
/-- what an Append in which the disk may crash leaves -/
def Jal (n : Nat) (w0 : World) (D J k0 : Nat) (ep : Int) (L : List RcJ) (r : RcJ) (ks : List Int) (w : World) (e : Ending) (w' : World) : Prop :=
  ∃ z dz, e = .returned (.int .i64 z) ∧ DW n w0 D dz w' ∧ Kj D J w w' ∧ DsOk (k0 + 4) dz ∧ GoodD dz ∧ ((z ≠ 0 ∧ HasJ (dz.crash ks).S ep L) ∨ (z ≠ 2 ∧ HasJ (dz.crash ks).S ep (L ++ [r])))
theorem jlast_any (h : JW n w0 D J ⟨S, [], step, false, op⟩ 1 ep (L.length : Int) w) (hJ : GJ S ep L) (hg : GoodD ⟨S, [], step, false, op⟩) (ok : DsOk k0 ⟨S, [], step, false, op⟩) (hk0 : k0 ≤ 890) (hT : Tab w) (hL : L.length ≤ 11) (h0 : 0 ≤ step) (h4 : step ≤ 4) (e0 s0 k : Int) (x o y : ByteArray) (t u : Int) (hx : x.size ≤ maxLen) (ks : List Int) :
    Calls Tryz.prog 17 #[.pointer (some ⟨J, 0, none⟩), .agg #[.int .i64 e0, .int .i64 s0, .int .i64 k, .string x, .string o, .string y, .int .i64 t, .int .i64 u]] w (Jal n w0 D J k0 ep L (ep, (L.length : Int), k, x, o, y, t, u) ks w) := by
  cases hr : rok ep (L.length : Int) k x o y t u with
  | false =>
    refine (jap_no h ok hk0 hT e0 s0 k x o y t u hx hr (by omega) (by omega)).mono ?_
    rintro e w' ⟨rfl, hj, hk⟩
    exact ⟨2, _, rfl, hj.dw, hk, jst_ok [] _ ok 4 (by decide), hg, .inl ⟨by decide, hJ.has⟩⟩
  | true =>
    have e1 : pl (((⟨S, [], step, false, op⟩ : Ds).S.length : Nat) : Int) 1 ((L.length : Int) + 1) = .tuple #[.int .i64 (39 - ((L.length : Int) + 1)), .int .i64 0] := pl40r hJ.len _ (by omega) (by omega)
    have e2 : pl (((⟨S, [], step, false, op⟩ : Ds).S.length : Nat) : Int) 1 (L.length : Int) = .tuple #[.int .i64 (39 - (L.length : Int)), .int .i64 0] := pl40r hJ.len _ (by omega) (by omega)
    obtain ⟨Z, hZ⟩ : ∃ Z, Z = japS ⟨S, [], step, false, op⟩ (39 - ((L.length : Int) + 1)) (39 - (L.length : Int)) ep (L.length : Int) k x o y t u := ⟨_, rfl⟩
    have hq : jst [some (39 - ((L.length : Int) + 1), noZ), none, some (39 - (L.length : Int), recJ (ep, (L.length : Int), k, x, o, y, t, u)), none] ⟨S, [], step, false, op⟩ = Z := by rw [hZ]; unfold japS; rfl
    have q1 := last_all (op := op) (r := (ep, (L.length : Int), k, x, o, y, t, u)) (a1 := 39 - ((L.length : Int) + 1)) (a2 := 39 - (L.length : Int)) hJ hL ks h0 h4 rfl rfl hr rfl rfl Z hq
    have q2 := jst_ok [some (39 - ((L.length : Int) + 1), noZ), none, some (39 - (L.length : Int), recJ (ep, (L.length : Int), k, x, o, y, t, u)), none] _ ok 4 (Nat.le_refl 4)
    have q3 := jst_good [some (39 - ((L.length : Int) + 1), noZ), none, some (39 - (L.length : Int), recJ (ep, (L.length : Int), k, x, o, y, t, u)), none] _ hg
    rw [hq] at q2 q3
    refine (jap_yes h ok hk0 hT e0 s0 k x o y t u _ _ hr e1 e2 (by omega) (by omega)).mono ?_
    rw [← hZ]
    rintro e w' ⟨rfl, hj, hk⟩
    exact ⟨Z.2, Z.1, rfl, hj.dw, hk, q2, q3, q1⟩
end
theorem okJ {S : List ByteArray} {ar op : Int} {k : Nat} {go : Bool} (hS : S.length = 40) (h0 : 0 ≤ ar) (h1 : ar ≤ 100) (h2 : 0 ≤ op) (h3 : op ≤ (k : Int)) : DsOk k ⟨S, [], ar, go, op⟩ :=
  ⟨by show 16 ≤ S.length; omega, by show S.length ≤ 4096; omega, Nat.zero_le _, h0, by show ar ≤ _; omega, h2, h3⟩
/-- a box of a record whose first two cells are set -/
theorem set_two {w : World} {p : Nat} {e0 s0 k : Int} {x o y : ByteArray} {t u : Int} (h : w.heap[p]? = some (.cells #[.int .i64 e0, .int .i64 s0, .int .i64 k, .string x, .string o, .string y, .int .i64 t, .int .i64 u] 42 (0, 0))) (e s : Int) :
    (w.setCell ⟨p, 0, none⟩ (.int .i64 e)).cell? ⟨p, 1, none⟩ = some (.int .i64 s0) ∧ (w.setCell ⟨p, 0, none⟩ (.int .i64 e)).frozen? ⟨p, 1, none⟩ = false ∧
    ((w.setCell ⟨p, 0, none⟩ (.int .i64 e)).setCell ⟨p, 1, none⟩ (.int .i64 s)).heap[p]? = some (.cells #[.int .i64 e, .int .i64 s, .int .i64 k, .string x, .string o, .string y, .int .i64 t, .int .i64 u] 42 (0, 0)) ∧
    KK [p] w ((w.setCell ⟨p, 0, none⟩ (.int .i64 e)).setCell ⟨p, 1, none⟩ (.int .i64 s)) := by
  have h1 : (w.setCell ⟨p, 0, none⟩ (.int .i64 e)).heap[p]? = some (.cells #[.int .i64 e, .int .i64 s0, .int .i64 k, .string x, .string o, .string y, .int .i64 t, .int .i64 u] 42 (0, 0)) := heap_setCell_at (i := 0) (u := .int .i64 e) h
  have h2 := heap_setCell_at (i := 1) (u := .int .i64 s) h1
  exact ⟨(cell_of_row _ _ 1 _ _ _ h1).trans rfl, frozen_of_row _ _ _ _ _ h1, h2, ((KK.refl [p] w).set (b := p) (by simp) 0 (.int .i64 e)).set (b := p) (by simp) 1 (.int .i64 s)⟩
theorem jbad40 {S : List ByteArray} {ep : Int} (hS : S.length = 40) (h1 : 1 ≤ ep) (h2 : ep ≤ 4294967295) : jBad (S.length : Int) 1 ep 0 = false := by
  have e : (S.length : Int) = 40 := by rw [hS]; rfl
  have h3 : Ar.hf 40 = 19 := by decide
  unfold jBad
  rw [e, h3]
  simp
  omega
/-- Open of the second half of a disk that holds these records -/
theorem jopen40_any {n : Nat} {w0 : World} {D : Nat} {S : List ByteArray} {op ep : Int} {L : List RcJ} {w : World} {k0 : Nat} (h : DW n w0 D ⟨S, [], 0, false, op⟩ w) (hJ : HasJ S ep L) (hg : GoodD ⟨S, [], 0, false, op⟩) (ok : DsOk k0 ⟨S, [], 0, false, op⟩) (hk0 : k0 ≤ 850) (hT : Tab w0) (ht : 2 < n) (hL : L.length ≤ 12) (h1 : 1 ≤ ep) (h2 : ep ≤ 4294967295) :
    Calls Tryz.prog 16 #[.pointer (some ⟨D, 0, none⟩), .int .i64 1, .int .i64 ep] w fun e w' => ∃ J A c op', e = .returned (.tuple #[.pointer (some ⟨J, 0, none⟩), .slice A L.length c, .int .i64 0]) ∧ op ≤ op' ∧ op' ≤ op + (L.length : Int) + 1 ∧ JW n w0 D J ⟨S, [], 0, false, op'⟩ 1 ep (L.length : Int) w' ∧ OwX rcJ 8 42 w' w.heap.size (.slice A L.length c) L ∧ Kd D w w' ∧ w.heap.size ≤ J := by
  obtain ⟨op', o1, o2, ho⟩ := opJ_has (ar := 0) hJ (by omega) L [] 19 op rfl (by omega)
  have hS := hJ.len
  have e : (Ar.hf (((⟨S, [], 0, false, op⟩ : Ds).S.length : Nat) : Int)).toNat = 19 := by
    show (Ar.hf (S.length : Int)).toNat = 19
    rw [hS]
    decide
  have q := jopen_any (hh := 1) h ok hg hk0 (by show S.length ≤ 40; omega) hT ht (jbad40 hS h1 h2)
  rw [e, ho] at q
  refine q.mono ?_
  rintro e w' (⟨h, _⟩ | ⟨_, J, A, c, rfl, hj, hx, hk, hJ⟩)
  · exact absurd rfl h
  · exact ⟨J, A, c, op', rfl, o1, o2, hj, hx, hk, hJ⟩
theorem rd_strJ {w : World} {A : Option Addr} {n : Nat} {l : List ByteArray} (h : RdX stC 1 w A n l) : StrS w A n l := by
  refine ⟨h.1, fun hp => ?_⟩
  obtain ⟨b, off, rfl, _, hc⟩ := h.2 hp
  exact ⟨b, off, rfl, fun i hi => by have q := hc i l[i] 0 (.string l[i]) (List.getElem?_eq_getElem hi) rfl; simpa using q⟩
theorem catS_mem (ss : List ByteArray) (s : ByteArray) (h : s ∈ ss) : s.size ≤ (catS ss).length := by
  obtain ⟨i, hi, rfl⟩ := List.getElem_of_mem h
  have := catS_le ss i hi
  omega
theorem newJ_one (w : World) (o : Obj) : (w.alloc o).drew.heap[w.heap.size]? = some o := (MapKept.heap_alloc w o).1
theorem newJ_two (w : World) (o p : Obj) : ((w.alloc o).alloc p).drew.heap[w.heap.size]? = some o ∧ ((w.alloc o).alloc p).drew.heap[w.heap.size + 1]? = some p := by
  constructor
  · show ((w.heap.push o).push p)[w.heap.size]? = _
    rw [Array.getElem?_push]
    simp
  · show ((w.heap.push o).push p)[w.heap.size + 1]? = _
    rw [Array.getElem?_push]
    simp
theorem belJ_one (w : World) (o : Obj) : Below w.heap.size w (w.alloc o).drew := ((Below.refl _ w).alloc (Nat.le_refl _) o).drew
theorem belJ_two (w : World) (o p : Obj) : Below w.heap.size w ((w.alloc o).alloc p).drew := (((Below.refl _ w).alloc (Nat.le_refl _) o).alloc (by simp) p).drew
theorem sizJ_one (w : World) (o : Obj) : w.heap.size < (w.alloc o).drew.heap.size := by show _ < (w.heap.push o).size; simp
theorem sizJ_two (w : World) (o p : Obj) : w.heap.size + 1 < ((w.alloc o).alloc p).drew.heap.size := by show _ < ((w.heap.push o).push p).size; simp
theorem sizJ_old (w : World) (o p : Obj) : w.heap.size < ((w.alloc o).alloc p).drew.heap.size := Nat.lt_of_succ_lt (sizJ_two w o p)
theorem ownJ_neN {p q : Nat} (h : p ≠ q) (n c : Nat) : some p ≠ (Value.slice (some ⟨q, 0, none⟩) n c).ownBlock := fun e => h (by simpa [Value.ownBlock] using e)
theorem kk_bel {n g : Nat} {w W W' : World} (h : Below n w W) (k : KK [g] W W') (hg : n ≤ g) (hn : n ≤ W.heap.size) : Below n w W' :=
  h.trans ⟨k.os, k.tape, k.output, k.size, fun b hb => k.block b (Nat.lt_of_lt_of_le hb hn) (by simp; omega)⟩
end Go.Proofs.YtiflieaemgamkaaGreatDoor

namespace Go.Proofs.YtiflieaemgamkaaGreatDoor
open Go.RowKit Vi Ar Cm

set_option linter.unusedSimpArgs false in
set_option maxRecDepth 100000 in
set_option maxHeartbeats 16000000 in
theorem journalall_any (ep : Int) (A : Option Addr) (n c : Nat) (L : List RcJ) (e0 s0 k : Int) (x o y : ByteArray) (t u : Int) (A3 : Option Addr) (n3 c3 : Nat) (js : List ByteArray) (step : Int) (A5 : Option Addr) (n5 c5 : Nat) (ks : List Int) (w : World)
    (hl : RdX rcJ 8 w A n L) (hz : ∀ r ∈ L, r.2.2.2.1.size ≤ maxLen) (hx : x.size ≤ maxLen) (h3 : RdX stC 1 w A3 n3 js) (hz3 : ∀ s ∈ js, s.size ≤ maxLen) (h5 : RdX inC 1 w A5 n5 ks) (hw5 : ∀ x ∈ ks, (Lit.int .i64 x).wf = true) (hn : n ≤ maxLen) (hn3 : n3 ≤ maxLen) (hn5 : n5 ≤ maxLen) (hT : Tab w) :
    Calls Tryz.prog 4 #[.int .i64 ep, .slice A n c, .agg #[.int .i64 e0, .int .i64 s0, .int .i64 k, .string x, .string o, .string y, .int .i64 t, .int .i64 u], .slice A3 n3 c3, .int .i64 step, .slice A5 n5 c5] w fun e w' => e = .returned (.bool true) ∧ Below w.heap.size w w' := by
  have hg0 : 2 < w.heap.size := World.block_lt_of_cell? w _ (hT 0 (by omega))
  obtain ⟨v, hv⟩ : ∃ v, v = w.alloc (.cells #[.int .i64 e0, .int .i64 s0, .int .i64 k, .string x, .string o, .string y, .int .i64 t, .int .i64 u] 42 (0, 0)) := ⟨_, rfl⟩
  have hsz : v.heap.size = w.heap.size + 1 := by rw [hv]; simp
  have HBv : Hid (Below w.heap.size w v) := Lib.hid (by rw [hv]; exact (Below.refl _ _).alloc (Nat.le_refl _) _)
  have HX : Hid (v.heap[w.heap.size]? = some (.cells #[.int .i64 e0, .int .i64 s0, .int .i64 k, .string x, .string o, .string y, .int .i64 t, .int .i64 u] 42 (0, 0))) := Lib.hid (by rw [hv]; exact blk_new _ _)
  have HL := Lib.hid (hl.below HBv.out)
  have H3 := Lib.hid (h3.below HBv.out)
  have H5 := Lib.hid (h5.below HBv.out)
  have HT : Hid (Tab v) := Lib.hid (fun j hj => by rw [World.cell?_of_block (HBv.out.block _ hg0)]; exact hT j hj)
  have HV := Lib.hid hv
  have HTw := Lib.hid hT
  have HSZ := Lib.hid hsz
  have HZ := Lib.hid hz
  have HZ3 := Lib.hid hz3
  have HW5 := Lib.hid hw5
  have HXZ := Lib.hid hx
  have HA := Lib.hid (awake38_any v HT.out)
  have hg : 2 < v.heap.size := by omega
  have HN5 := Lib.hid hn5
  unfold maxLen at hn hn3 hn5
  clear hl h3 h5 hT hv hz hz3 hw5 hx hsz
  go_enter Tryz.func4, Tryz.ntmps4
  go_upto_region 1 with (fail)
  rw [← HV.out]
  clear HV
  by_cases q1 : ep < 1
  · have t1_0 : decide (ep < 1) = true := decide_eq_true (by omega)
    go_wp2_with fail
    refine HA.out.mono ?_
    rintro e w9 ⟨rfl, hb9⟩
    have HB9 := Lib.hid (HBv.out.trans (hb9.mono HBv.out.size))
    clear hb9
    go_wp2_with fail
    go_ret
    exact ⟨rfl, HB9.out⟩
  have t1_0 : decide (ep < 1) = false := decide_eq_false (by omega)
  by_cases q2 : 4294967295 < ep
  · have t2_0 : decide (ep > 4294967295) = true := decide_eq_true (by omega)
    have t2_1 : decide (4294967295 < ep) = true := decide_eq_true (by omega)
    go_wp2_with fail
    refine HA.out.mono ?_
    rintro e w9 ⟨rfl, hb9⟩
    have HB9 := Lib.hid (HBv.out.trans (hb9.mono HBv.out.size))
    clear hb9
    go_wp2_with fail
    go_ret
    exact ⟨rfl, HB9.out⟩
  have t2_0 : decide (ep > 4294967295) = false := decide_eq_false (by omega)
  have t2_1 : decide (4294967295 < ep) = false := decide_eq_false (by omega)
  by_cases q3 : 10 < n
  · have t3_0 : decide ((n : Int) > 10) = true := decide_eq_true (by omega)
    have t3_1 : decide (10 < (n : Int)) = true := decide_eq_true (by omega)
    have t3_2 : decide (10 < n) = true := decide_eq_true (by omega)
    go_wp2_with fail
    refine HA.out.mono ?_
    rintro e w9 ⟨rfl, hb9⟩
    have HB9 := Lib.hid (HBv.out.trans (hb9.mono HBv.out.size))
    clear hb9
    go_wp2_with fail
    go_ret
    exact ⟨rfl, HB9.out⟩
  have t3_0 : decide ((n : Int) > 10) = false := decide_eq_false (by omega)
  have t3_1 : decide (10 < (n : Int)) = false := decide_eq_false (by omega)
  have t3_2 : decide (10 < n) = false := decide_eq_false (by omega)
  by_cases q4 : 40 < n3
  · have t4_0 : decide ((n3 : Int) > 40) = true := decide_eq_true (by omega)
    have t4_1 : decide (40 < (n3 : Int)) = true := decide_eq_true (by omega)
    have t4_2 : decide (40 < n3) = true := decide_eq_true (by omega)
    go_wp2_with fail
    refine HA.out.mono ?_
    rintro e w9 ⟨rfl, hb9⟩
    have HB9 := Lib.hid (HBv.out.trans (hb9.mono HBv.out.size))
    clear hb9
    go_wp2_with fail
    go_ret
    exact ⟨rfl, HB9.out⟩
  have t4_0 : decide ((n3 : Int) > 40) = false := decide_eq_false (by omega)
  have t4_1 : decide (40 < (n3 : Int)) = false := decide_eq_false (by omega)
  have t4_2 : decide (40 < n3) = false := decide_eq_false (by omega)
  go_wp2_with fail
  refine (tbytes_any A3 n3 c3 js v (rd_strJ H3.out) (by omega) HZ3.out).mono ?_
  rintro e w' ⟨⟨r1, rfl, hr1⟩, rfl⟩
  by_cases q5 : 6000 < r1
  · have t5_0 : decide ((r1 : Int) > 6000) = true := decide_eq_true (by omega)
    have t5_1 : decide (6000 < (r1 : Int)) = true := decide_eq_true (by omega)
    have t5_2 : decide (6000 < r1) = true := decide_eq_true (by omega)
    go_wp2_with fail
    refine HA.out.mono ?_
    rintro e w9 ⟨rfl, hb9⟩
    have HB9 := Lib.hid (HBv.out.trans (hb9.mono HBv.out.size))
    clear hb9
    go_wp2_with fail
    go_ret
    exact ⟨rfl, HB9.out⟩
  have t5_0 : decide ((r1 : Int) > 6000) = false := decide_eq_false (by omega)
  have t5_1 : decide (6000 < (r1 : Int)) = false := decide_eq_false (by omega)
  have t5_2 : decide (6000 < r1) = false := decide_eq_false (by omega)
  by_cases q6 : 100 < n5
  · have t6_0 : decide ((n5 : Int) > 100) = true := decide_eq_true (by omega)
    have t6_1 : decide (100 < (n5 : Int)) = true := decide_eq_true (by omega)
    have t6_2 : decide (100 < n5) = true := decide_eq_true (by omega)
    go_wp2_with fail
    refine HA.out.mono ?_
    rintro e w9 ⟨rfl, hb9⟩
    have HB9 := Lib.hid (HBv.out.trans (hb9.mono HBv.out.size))
    clear hb9
    go_wp2_with fail
    go_ret
    exact ⟨rfl, HB9.out⟩
  have t6_0 : decide ((n5 : Int) > 100) = false := decide_eq_false (by omega)
  have t6_1 : decide (100 < (n5 : Int)) = false := decide_eq_false (by omega)
  have t6_2 : decide (100 < n5) = false := decide_eq_false (by omega)
  by_cases q7 : step < 0
  · have t7_0 : decide (step < 0) = true := decide_eq_true (by omega)
    go_wp2_with fail
    refine HA.out.mono ?_
    rintro e w9 ⟨rfl, hb9⟩
    have HB9 := Lib.hid (HBv.out.trans (hb9.mono HBv.out.size))
    clear hb9
    go_wp2_with fail
    go_ret
    exact ⟨rfl, HB9.out⟩
  have t7_0 : decide (step < 0) = false := decide_eq_false (by omega)
  by_cases q8 : 4 < step
  · have t8_0 : decide (step > 4) = true := decide_eq_true (by omega)
    have t8_1 : decide (4 < step) = true := decide_eq_true (by omega)
    go_wp2_with fail
    refine HA.out.mono ?_
    rintro e w9 ⟨rfl, hb9⟩
    have HB9 := Lib.hid (HBv.out.trans (hb9.mono HBv.out.size))
    clear hb9
    go_wp2_with fail
    go_ret
    exact ⟨rfl, HB9.out⟩
  have t8_0 : decide (step > 4) = false := decide_eq_false (by omega)
  have t8_1 : decide (4 < step) = false := decide_eq_false (by omega)
  have HJS : Hid (∀ s ∈ js, s.size ≤ 140737488351232) := Lib.hid (fun s hs => by have := catS_mem js s hs; have := hr1 (by omega); omega)
  clear hr1 HA HZ3
  have HNW := Lib.hid (fun W : World => show Calls Tryz.prog 8 #[.int .i64 40] W (NewD (List.replicate 40 noZ) [] W) from dnew_yes 40 W (by decide) (by decide))
  have HJ0 := Lib.hid (GJ.new ep)
  have HG0 : Hid (GoodD ⟨List.replicate 40 noZ, [], 0, false, 0⟩) := Lib.hid (GoodD.new 40)
  generalize List.replicate 40 noZ = S0 at HNW HJ0 HG0
  go_wp2_with fail
  refine (HNW.out _).mono ?_
  rintro e w1 ⟨D, rfl, hd, hi, hb⟩
  have HW1 : Hid (DW v.heap.size v D ⟨S0, [], 0, false, 0⟩ w1) := Lib.hid ⟨hd, hi, hb, hb.size⟩
  clear hd hi hb HNW
  go_wp2_with fail
  refine (jopen40_any HW1.out HJ0.out.has HG0.out (okJ (k := 0) HJ0.out.len (by omega) (by omega) (by omega) (by omega)) (by omega) HT.out hg (by simp) (by omega) (by omega)).mono ?_
  rintro e w2 ⟨J, A6, c6, op1, rfl, ho1, ho2, hj, hox, _, _⟩
  have HJ2 := Lib.hid hj
  have HO1 : Hid (0 ≤ op1 ∧ op1 ≤ 1) := Lib.hid ⟨ho1, by simpa using ho2⟩
  have HG1 : Hid (GoodD ⟨S0, [], 0, false, op1⟩) := Lib.hid ⟨HG0.out.s, HG0.out.c⟩
  clear hj hox ho1 ho2 HG0 HW1
  go_wp2_with fail
  go_loopw [18, 82] (fun wv i wr => ∃ (q : Nat) (T : List RcJ) (St : List ByteArray) (op : Int) (Aw : Option Addr) (cw : Nat), i = .int .i64 (q : Int) ∧ q ≤ n ∧ wv = .slice Aw T.length cw ∧ T.length ≤ q ∧ Hid (GJ St ep T) ∧ Hid (GoodD ⟨St, [], 0, false, op⟩) ∧ Hid (0 ≤ op ∧ op ≤ 1 + 4 * (q : Int)) ∧ Hid (JW v.heap.size v D J ⟨St, [], 0, false, op⟩ 1 ep (T.length : Int) wr) ∧ Hid (OwX rcJ 8 42 wr v.heap.size (.slice Aw T.length cw) T)) (fun _ i _ => n - (intOf i).toNat)
  case atStart => exact ⟨0, [], S0, op1, none, 0, rfl, Nat.zero_le _, rfl, Nat.le_refl _, HJ0, HG1, Lib.hid ⟨HO1.out.1, by have := HO1.out.2; omega⟩, HJ2, Lib.hid (OwX.nil _)⟩
  case round =>
    obtain ⟨q, T, St, op, Aw, cw, rfl, hq, rfl, hTq, HGJ, HGD, HOP, HJW, HOW⟩ := hrel
    clear HJ0 HG1 HO1 HJ2
    by_cases hlt : q < n
    · have hd1 : decide ((q : Int) < (n : Int)) = true := decide_eq_true (by omega)
      have hi0 : (0 : Int) ≤ (q : Int) := by omega
      have hw1 : IntKind.i64.wrap ((q : Int) + 1) = (q : Int) + 1 := IntWalk.i64_in _ (by omega)
      obtain ⟨b, off, hl1, rfl, hbb, _⟩ := (HL.out.below HJW.out.dw.bel).at hlt
      obtain ⟨r, hr⟩ : ∃ r, L[q] = r := ⟨_, rfl⟩
      have HXR := Lib.hid (show L[q]? = some r by rw [List.getElem?_eq_getElem hl1, hr])
      have HRZ := Lib.hid (HZ.out r (by rw [← hr]; exact List.getElem_mem hl1))
      clear hr
      obtain ⟨r1, r2, r3, r4, r5, r6, r7, r8⟩ := r
      have c0 : wr.cell? ⟨b, off + q * 8, none⟩ = some (.int .i64 r1) := (HL.out.below HJW.out.dw.bel).cellAt HXR.out hlt 0 _ rfl
      have c1 : wr.cell? ⟨b, off + q * 8 + 1, none⟩ = some (.int .i64 r2) := (HL.out.below HJW.out.dw.bel).cellAt HXR.out hlt 1 _ rfl
      have c2 : wr.cell? ⟨b, off + q * 8 + 2, none⟩ = some (.int .i64 r3) := (HL.out.below HJW.out.dw.bel).cellAt HXR.out hlt 2 _ rfl
      have c3 : wr.cell? ⟨b, off + q * 8 + 3, none⟩ = some (.string r4) := (HL.out.below HJW.out.dw.bel).cellAt HXR.out hlt 3 _ rfl
      have c4 : wr.cell? ⟨b, off + q * 8 + 4, none⟩ = some (.string r5) := (HL.out.below HJW.out.dw.bel).cellAt HXR.out hlt 4 _ rfl
      have c5 : wr.cell? ⟨b, off + q * 8 + 5, none⟩ = some (.string r6) := (HL.out.below HJW.out.dw.bel).cellAt HXR.out hlt 5 _ rfl
      have c6 : wr.cell? ⟨b, off + q * 8 + 6, none⟩ = some (.int .i64 r7) := (HL.out.below HJW.out.dw.bel).cellAt HXR.out hlt 6 _ rfl
      have c7 : wr.cell? ⟨b, off + q * 8 + 7, none⟩ = some (.int .i64 r8) := (HL.out.below HJW.out.dw.bel).cellAt HXR.out hlt 7 _ rfl
      have hbA : Below wr.heap.size wr (wr.alloc (.cells #[.int .i64 r1, .int .i64 r2, .int .i64 r3, .string r4, .string r5, .string r6, .int .i64 r7, .int .i64 r8] 42 (0, 0))) := (Below.refl _ _).alloc (Nat.le_refl _) _
      have HJA := Lib.hid (HJW.out.below hbA)
      have HOA := Lib.hid (HOW.out.alloc (.cells #[.int .i64 r1, .int .i64 r2, .int .i64 r3, .string r4, .string r5, .string r6, .int .i64 r7, .int .i64 r8] 42 (0, 0)))
      have HBX := Lib.hid (blk_new wr (.cells #[.int .i64 r1, .int .i64 r2, .int .i64 r3, .string r4, .string r5, .string r6, .int .i64 r7, .int .i64 r8] 42 (0, 0)))
      have hpn : v.heap.size ≤ wr.heap.size := HJW.out.dw.sz
      have HNI : Hid (¬ InD D (wr.alloc (.cells #[.int .i64 r1, .int .i64 r2, .int .i64 r3, .string r4, .string r5, .string r6, .int .i64 r7, .int .i64 r8] 42 (0, 0))) wr.heap.size) := Lib.hid (fun z => by have := HJW.out.dw.dk.new (z.back hbA HJW.out.dw.lt); omega)
      have HJP : Hid (J ≠ wr.heap.size) := Lib.hid (fun z => by have := lt_of_block HJW.out.bx; omega)
      have HTA : Hid (Tab (wr.alloc (.cells #[.int .i64 r1, .int .i64 r2, .int .i64 r3, .string r4, .string r5, .string r6, .int .i64 r7, .int .i64 r8] 42 (0, 0)))) := Lib.hid (Tab.dwJ HJA.out.dw HT.out hg)
      have HOWB : Hid (∀ g, Value.ownBlock (.slice Aw T.length cw) = some g → g < wr.heap.size) := Lib.hid (fun g z => (own_type HOW.out z).2.1)
      clear hbA
      go_wp2_with fail
      clear c0 c1 c2 c3 c4 c5 c6 c7
      refine (jap40_any HJA.out HGJ.out HGD.out (okJ (k := 60) HGJ.out.len (by omega) (by omega) HOP.out.1 (by have := HOP.out.2; omega)) (by omega) HTA.out (by omega) r1 r2 r3 r4 r5 r6 r7 r8 HRZ.out).mono ?_
      rintro e w3 (⟨rfl, hj3, hk3⟩ | ⟨rfl, hk3, S3, hj3, hgj3, hgd3⟩)
      · have HJ3 := Lib.hid hj3
        have HO3 := Lib.hid (HOA.out.kj HJA.out hk3)
        clear hj3 hk3 HOA HJA HJW HOW HTA HNI HBX
        go_wp2_with fail
        go_roundw
        case rel => exact ⟨q + 1, T, St, op, Aw, cw, by go_num, by omega, rfl, by omega, HGJ, HGD, Lib.hid ⟨HOP.out.1, by have := HOP.out.2; omega⟩, HJ3, HO3⟩
        case measure => simp [intOf] <;> omega
      · have HJ3 := Lib.hid hj3
        have HO3 := Lib.hid (HOA.out.kj HJA.out hk3)
        have HG3 := Lib.hid hgj3
        have HD3 := Lib.hid hgd3
        have HB3 : Hid (w3.heap[wr.heap.size]? = some (.cells #[.int .i64 r1, .int .i64 r2, .int .i64 r3, .string r4, .string r5, .string r6, .int .i64 r7, .int .i64 r8] 42 (0, 0))) := Lib.hid ((hk3.block wr.heap.size (by simp) HNI.out HJP.out.symm).trans HBX.out)
        have HN3 : Hid (¬ InD D w3 wr.heap.size) := Lib.hid (fun z => HNI.out (hk3.ind _ (by simp) z))
        obtain ⟨s1, s2, s3, s4⟩ := set_two HB3.out ep (T.length : Int)
        have z0 : w3.cell? ⟨wr.heap.size, 0, none⟩ = some (.int .i64 r1) := (cell_of_row _ _ 0 _ _ _ HB3.out).trans rfl
        have f0 : w3.frozen? ⟨wr.heap.size, 0, none⟩ = false := frozen_of_row _ _ _ _ _ HB3.out
        have HS3 := Lib.hid s3
        have HS4 := Lib.hid s4
        clear hj3 hk3 hgj3 hgd3 HOA HJA HJW HOW HTA HNI HBX s3 s4 HGJ HGD
        go_upto_region 13 with (fail)
        clear z0 f0 s1 s2
        obtain ⟨W4, hW4⟩ : ∃ W4, W4 = (w3.setCell ⟨wr.heap.size, 0, none⟩ (.int .i64 ep)).setCell ⟨wr.heap.size, 1, none⟩ (.int .i64 (T.length : Int)) := ⟨_, rfl⟩
        rw [← hW4] at HS3 HS4 ⊢
        clear hW4
        have HJ4 := Lib.hid (HJ3.out.kk HS4.out HN3.out hpn HJP.out)
        have HO4 : Hid (OwX rcJ 8 42 W4 v.heap.size (.slice Aw T.length cw) T) := Lib.hid (HO3.out.same (fun g e => HS4.out.block g (own_type HO3.out e).2.1 (by have := HOWB.out g e; simp; omega)))
        have y0 : W4.cell? ⟨wr.heap.size, 0, none⟩ = some (.int .i64 ep) := (cell_of_row _ _ 0 _ _ _ HS3.out).trans rfl
        have y1 : W4.cell? ⟨wr.heap.size, 1, none⟩ = some (.int .i64 (T.length : Int)) := (cell_of_row _ _ 1 _ _ _ HS3.out).trans rfl
        have y2 : W4.cell? ⟨wr.heap.size, 2, none⟩ = some (.int .i64 r3) := (cell_of_row _ _ 2 _ _ _ HS3.out).trans rfl
        have y3 : W4.cell? ⟨wr.heap.size, 3, none⟩ = some (.string r4) := (cell_of_row _ _ 3 _ _ _ HS3.out).trans rfl
        have y4 : W4.cell? ⟨wr.heap.size, 4, none⟩ = some (.string r5) := (cell_of_row _ _ 4 _ _ _ HS3.out).trans rfl
        have y5 : W4.cell? ⟨wr.heap.size, 5, none⟩ = some (.string r6) := (cell_of_row _ _ 5 _ _ _ HS3.out).trans rfl
        have y6 : W4.cell? ⟨wr.heap.size, 6, none⟩ = some (.int .i64 r7) := (cell_of_row _ _ 6 _ _ _ HS3.out).trans rfl
        have y7 : W4.cell? ⟨wr.heap.size, 7, none⟩ = some (.int .i64 r8) := (cell_of_row _ _ 7 _ _ _ HS3.out).trans rfl
        have hbO : Below W4.heap.size W4 (W4.alloc (.cells #[.int .i64 ep, .int .i64 (T.length : Int), .int .i64 r3, .string r4, .string r5, .string r6, .int .i64 r7, .int .i64 r8] 42 (0, 0))) := (Below.refl _ _).alloc (Nat.le_refl _) _
        have hv4 : v.heap.size ≤ W4.heap.size := HJ4.out.dw.sz
        have HJB := Lib.hid (HJ4.out.below hbO)
        have HOB := Lib.hid (HO4.out.alloc (.cells #[.int .i64 ep, .int .i64 (T.length : Int), .int .i64 r3, .string r4, .string r5, .string r6, .int .i64 r7, .int .i64 r8] 42 (0, 0)))
        have HBO := Lib.hid (hbO.mono hv4)
        clear hbO HB3 HN3 HJ3 HO3
        go_wp2_with (at_builtin; refine wpList_appX rfl (.tmp 95) (.tmp 97) 50 42 _ 88 rfl Tryz.underlying50 info_rcJ rfl (by omega) (by omega) rcJ_len rcJ_one v.heap.size W4 HBO.out (Nat.le_trans hv4 (by simp)) (.slice Aw T.length cw) T rfl HOB.out W4.heap.size 1 (ep, (T.length : Int), r3, r4, r5, r6, r7, r8) #[.int .i64 ep, .int .i64 (T.length : Int), .int .i64 r3, .string r4, .string r5, .string r6, .int .i64 r7, .int .i64 r8] 42 (0, 0) rfl (heap_alloc_new W4 _) rfl (by omega) ?_)
        intro v5 w5 HO5 HB5 HS5 HG5
        clear y0 y1 y2 y3 y4 y5 y6 y7
        have HJ5 := Lib.hid (HJB.out.grownJ HOB.out (Nat.le_refl _) HG5.out)
        obtain ⟨A9, c9, rfl, _, _, _⟩ := HO5.out.rd rcJ_len
        clear HJB HOB HBO HB5 HS5 HG5 HJ4 HO4 HS3 HS4
        go_wp2_with fail
        go_roundw
        case rel => exact ⟨q + 1, T ++ [(ep, (T.length : Int), r3, r4, r5, r6, r7, r8)], S3, op + 4, A9, c9, by go_num, by omega, rfl, by simp; omega, HG3, HD3, Lib.hid ⟨by have := HOP.out.1; omega, by have := HOP.out.2; omega⟩, Lib.hid (by rw [show ((T ++ [((ep, (T.length : Int), r3, r4, r5, r6, r7, r8) : RcJ)]).length : Int) = (T.length : Int) + 1 by simp]; exact HJ5.out), HO5⟩
        case measure => simp [intOf] <;> omega
    · have hd1 : decide ((q : Int) < (n : Int)) = false := decide_eq_false (by omega)
      have hTl : T.length ≤ 10 := by omega
      go_wp2_with fail
      go_loopw [102] (fun i wr => ∃ (p : Nat) (Sj : List ByteArray), i = .int .i64 (p : Int) ∧ p ≤ n3 ∧ Hid (GJ Sj ep T) ∧ Hid (GoodD ⟨Sj, [], 0, false, op⟩) ∧ Hid (JW v.heap.size v D J ⟨Sj, [], 0, false, op⟩ 1 ep (T.length : Int) wr) ∧ Hid (OwX rcJ 8 42 wr v.heap.size (.slice Aw T.length cw) T)) (fun i _ => n3 - (intOf i).toNat)
      case atStart => exact ⟨0, St, rfl, Nat.zero_le _, HGJ, HGD, HJW, HOW⟩
      case round =>
        obtain ⟨p, Sj, rfl, hp, HGJ2, HGD2, HJW2, HOW2⟩ := hrel
        clear HGJ HGD HJW HOW hd1
        by_cases hlt2 : p < n3
        · have hd2 : decide ((p : Int) < (n3 : Int)) = true := decide_eq_true (by omega)
          have hi0 : (0 : Int) ≤ (p : Int) := by omega
          have hw1 : IntKind.i64.wrap ((p : Int) + 1) = (p : Int) + 1 := IntWalk.i64_in _ (by omega)
          have hw2 : IntKind.i64.wrap ((T.length : Int) + 1) = (T.length : Int) + 1 := IntWalk.i64_in _ (by omega)
          have hw3 : IntKind.i64.wrap ((T.length : Int) + 1 + (p : Int)) = (T.length : Int) + 1 + (p : Int) := IntWalk.i64_in _ (by omega)
          obtain ⟨b, off, hl1, rfl, hbb, _⟩ := (H3.out.below HJW2.out.dw.bel).at hlt2
          obtain ⟨s, hs⟩ : ∃ s, js[p] = s := ⟨_, rfl⟩
          have HXS := Lib.hid (show js[p]? = some s by rw [List.getElem?_eq_getElem hl1, hs])
          have HSS := Lib.hid (HJS.out s (by rw [← hs]; exact List.getElem_mem hl1))
          have c0 : wr.cell? ⟨b, off + p, none⟩ = some (.string s) := by have z := (H3.out.below HJW2.out.dw.bel).cellAt HXS.out hlt2 0 _ rfl; simpa using z
          clear hs
          go_wp2_with fail
          refine (refHalf_any 40 _ (by omega) (by omega)).mono ?_
          rintro e w' ⟨rfl, rfl⟩
          rw [show Ar.hf 40 = 19 by decide]
          by_cases hin : T.length + 1 + p < 19
          · have hd3 : decide ((T.length : Int) + 1 + (p : Int) < 19) = true := decide_eq_true (by omega)
            go_wp2_with fail
            refine (rjplace_any 40 1 ((T.length : Int) + 1 + (p : Int)) _ (by omega) (by omega) (by omega) (by omega)).mono ?_
            rintro e w' ⟨rfl, rfl⟩
            rw [pl40i]
            go_wp2_with fail
            refine (dfull_any s _ HSS.out).mono ?_
            rintro e w4 ⟨rfl, hb4⟩
            have HJ4 := Lib.hid (HJW2.out.below hb4)
            have HO4 := Lib.hid (HOW2.out.kept hb4)
            obtain ⟨F, hF⟩ : ∃ F, F = fullT s := ⟨_, rfl⟩
            rw [← hF]
            clear hb4 hF
            go_wp2_with fail
            refine (pover HJ4.out.dw (39 - ((T.length : Int) + 1 + (p : Int))) F).mono ?_
            rintro e w5 ⟨rfl, hd5, hk5⟩
            have HJ5 : Hid (JW v.heap.size v D J ⟨overS Sj (39 - ((T.length : Int) + 1 + (p : Int))) F, [], 0, false, op⟩ 1 ep (T.length : Int) w5) := Lib.hid (HJ4.out.kd hd5 hk5)
            have HG5 : Hid (GJ (overS Sj (39 - ((T.length : Int) + 1 + (p : Int))) F) ep T) := Lib.hid (by have z := HGJ2.out.over (by omega) (T.length + 1 + p) hin (by omega) F; rw [show ((T.length + 1 + p : Nat) : Int) = (T.length : Int) + 1 + (p : Int) by omega] at z; exact z)
            have HD5 : Hid (GoodD ⟨overS Sj (39 - ((T.length : Int) + 1 + (p : Int))) F, [], 0, false, op⟩) := Lib.hid (HGD2.out.over (39 - ((T.length : Int) + 1 + (p : Int))) F)
            have HO5 := Lib.hid (HO4.out.kdJ HJ4.out.dw hk5)
            clear hd5 hk5 HJ4 HO4 HGJ2 HGD2 HJW2 HOW2 c0
            go_wp2_with fail
            go_roundw
            case rel => exact ⟨p + 1, _, by go_num, by omega, HG5, HD5, HJ5, HO5⟩
            case measure => simp [intOf] <;> omega
          · have hd3 : decide ((T.length : Int) + 1 + (p : Int) < 19) = false := decide_eq_false (by omega)
            go_wp2_with fail
            go_roundw
            case rel => exact ⟨p + 1, Sj, by go_num, by omega, HGJ2, HGD2, HJW2, HOW2⟩
            case measure => simp [intOf] <;> omega
        · have hd2 : decide ((p : Int) < (n3 : Int)) = false := decide_eq_false (by omega)
          go_wp2_with fail
          refine (parm HJW2.out.dw step).mono ?_
          rintro e w4 ⟨rfl, hd4, hk4⟩
          have HJ4 : Hid (JW v.heap.size v D J ⟨Sj, [], step, false, op⟩ 1 ep (T.length : Int) w4) := Lib.hid (by
            have z := HJW2.out.kd hd4 hk4
            have e : Ds.arm ⟨Sj, [], 0, false, op⟩ step = ⟨Sj, [], step, false, op⟩ := by
              have e2 : armE false step = 0 := by unfold armE; rw [if_neg Bool.false_ne_true, if_neg (by omega)]
              unfold Ds.arm
              dsimp only
              rw [if_pos e2]
            rw [e] at z
            exact z)
          have HO4 := Lib.hid (HOW2.out.kdJ HJW2.out.dw hk4)
          have HGD4 : Hid (GoodD ⟨Sj, [], step, false, op⟩) := Lib.hid ⟨HGD2.out.s, HGD2.out.c⟩
          have HX4 := Lib.hid ((HJ4.out.dw.bel.block w.heap.size (by have := HSZ.out; omega)).trans HX.out)
          clear hd4 hk4 HJW2 HOW2 HGD2 hd2
          have l0 : w4.cell? ⟨w.heap.size, 0, none⟩ = some (.int .i64 e0) := (cell_of_row _ _ 0 _ _ _ HX4.out).trans rfl
          have l1 : w4.cell? ⟨w.heap.size, 1, none⟩ = some (.int .i64 s0) := (cell_of_row _ _ 1 _ _ _ HX4.out).trans rfl
          have l2 : w4.cell? ⟨w.heap.size, 2, none⟩ = some (.int .i64 k) := (cell_of_row _ _ 2 _ _ _ HX4.out).trans rfl
          have l3 : w4.cell? ⟨w.heap.size, 3, none⟩ = some (.string x) := (cell_of_row _ _ 3 _ _ _ HX4.out).trans rfl
          have l4 : w4.cell? ⟨w.heap.size, 4, none⟩ = some (.string o) := (cell_of_row _ _ 4 _ _ _ HX4.out).trans rfl
          have l5 : w4.cell? ⟨w.heap.size, 5, none⟩ = some (.string y) := (cell_of_row _ _ 5 _ _ _ HX4.out).trans rfl
          have l6 : w4.cell? ⟨w.heap.size, 6, none⟩ = some (.int .i64 t) := (cell_of_row _ _ 6 _ _ _ HX4.out).trans rfl
          have l7 : w4.cell? ⟨w.heap.size, 7, none⟩ = some (.int .i64 u) := (cell_of_row _ _ 7 _ _ _ HX4.out).trans rfl
          go_wp2_with fail
          clear l0 l1 l2 l3 l4 l5 l6 l7
          refine (jlast_any HJ4.out HGJ2.out HGD4.out (okJ (k := 60) HGJ2.out.len (by omega) (by omega) HOP.out.1 (by have := HOP.out.2; omega)) (by omega) (Tab.dwJ HJ4.out.dw HT.out hg) (by omega) (by omega) (by omega) e0 s0 k x o y t u HXZ.out ks).mono ?_
          rintro e w5 ⟨z, dz, rfl, hd5, hk5, hok5, hg5, hor⟩
          have HD5 := Lib.hid hd5
          have HO5 := Lib.hid (HO4.out.kj HJ4.out hk5)
          have HOK5 := Lib.hid hok5
          have HG5 := Lib.hid hg5
          have HOR := Lib.hid hor
          clear hd5 hk5 hok5 hg5 hor HJ4 HO4 HGD4 HX4 HGJ2
          go_wp2_with fail
          refine (pcrash HD5.out HOK5.out (by omega) A5 n5 c5 ks (H5.out.below HD5.out.bel) HW5.out HN5.out).mono ?_
          rintro e w6 ⟨rfl, hd6, hk6⟩
          have HD6 := Lib.hid hd6
          have HO6 := Lib.hid (HO5.out.kdJ HD5.out hk6)
          clear hd6 hk6 HD5 HO5
          go_wp2_with fail
          refine (pboot HD6.out).mono ?_
          rintro e w7 ⟨rfl, hd7, hk7⟩
          have HD7 : Hid (DW v.heap.size v D ⟨(dz.crash ks).S, [], 0, false, dz.op⟩ w7) := Lib.hid hd7
          have HO7 := Lib.hid (HO6.out.kdJ HD6.out hk7)
          have HG7 : Hid (GoodD ⟨(dz.crash ks).S, [], 0, false, dz.op⟩) := Lib.hid (HG5.out.crash ks).boot
          have HOK7 : Hid (DsOk (60 + 4 + 1 + 1) ⟨(dz.crash ks).S, [], 0, false, dz.op⟩) := Lib.hid (HOK5.out.crash ks).boot
          clear hd7 hk7 HD6 HO6 HG5 HOK5
          generalize (dz.crash ks).S = S7 at HD7 HG7 HOK7 HOR
          generalize dz.op = op7 at HD7 HG7 HOK7
          obtain ⟨G, hG, hGz⟩ : ∃ G, HasJ S7 ep G ∧ ((z ≠ 0 ∧ G = T) ∨ (z ≠ 2 ∧ G = T ++ [(ep, (T.length : Int), k, x, o, y, t, u)])) := by
            rcases HOR.out with ⟨h1, h2⟩ | ⟨h1, h2⟩
            · exact ⟨T, h2, .inl ⟨h1, rfl⟩⟩
            · exact ⟨_, h2, .inr ⟨h1, rfl⟩⟩
          have HGH := Lib.hid hG
          have HGZ := Lib.hid hGz
          have HGL : Hid (G.length ≤ 12) := Lib.hid (by rcases hGz with ⟨_, rfl⟩ | ⟨_, rfl⟩ <;> first | omega | (simp; omega))
          clear hG hGz HOR
          go_wp2_with fail
          refine (jopen40_any HD7.out HGH.out HG7.out HOK7.out (by omega) HT.out hg HGL.out (by omega) (by omega)).mono ?_
          rintro e w8 ⟨J8, A8, c8, op8, rfl, _, _, hj8, hx8, hk8, _⟩
          have HO8 := Lib.hid (HO7.out.kdJ HD7.out hk8)
          have HX8 := Lib.hid hx8
          have HB8 := Lib.hid (HBv.out.trans (hj8.dw.bel.mono (by have := HSZ.out; omega)))
          have HC8 := Lib.hid ((hj8.dw.bel.block w.heap.size (by have := HSZ.out; omega)).trans HX.out)
          have HL8 : Hid (v.heap.size ≤ w7.heap.size) := Lib.hid HD7.out.sz
          obtain ⟨s1, s2, s3, s4⟩ := set_two HC8.out ep (T.length : Int)
          have z0 : w8.cell? ⟨w.heap.size, 0, none⟩ = some (.int .i64 e0) := (cell_of_row _ _ 0 _ _ _ HC8.out).trans rfl
          have f0 : w8.frozen? ⟨w.heap.size, 0, none⟩ = false := frozen_of_row _ _ _ _ _ HC8.out
          have HS3 := Lib.hid s3
          have HS4 := Lib.hid s4
          clear hj8 hx8 hk8 HO7 HD7 HG7 HOK7 s3 s4 HGH
          go_upto_region 27 with (fail)
          clear z0 f0 s1 s2
          obtain ⟨W9, hW9⟩ : ∃ W9, W9 = (w8.setCell ⟨w.heap.size, 0, none⟩ (.int .i64 ep)).setCell ⟨w.heap.size, 1, none⟩ (.int .i64 (T.length : Int)) := ⟨_, rfl⟩
          rw [← hW9] at HS3 HS4 ⊢
          clear hW9
          have HRT : Hid (RdX rcJ 8 W9 Aw T.length T) := Lib.hid (by
            obtain ⟨A', c', e', hr, _, _⟩ := (HO8.out.same (W := W9) (fun g e => HS4.out.block g (own_type HO8.out e).2.1 (by have := (own_type HO8.out e).1; have := HSZ.out; simp; omega))).rd rcJ_len
            injection e' with e1 e2 e3
            subst e1
            exact hr)
          have HRG : Hid (RdX rcJ 8 W9 A8 G.length G) := Lib.hid (by
            obtain ⟨A', c', e', hr, _, _⟩ := (HX8.out.same (W := W9) (fun g e => HS4.out.block g (own_type HX8.out e).2.1 (by have := (own_type HX8.out e).1; have := HL8.out; have := HSZ.out; simp; omega))).rd rcJ_len
            injection e' with e1 e2 e3
            subst e1
            exact hr)
          have HB9 := Lib.hid (kk_bel HB8.out HS4.out (Nat.le_refl _) HB8.out.size)
          have HLT : Hid (w.heap.size < W9.heap.size) := Lib.hid (lt_of_block HS3.out)
          clear HO8 HX8 HB8 HC8 HS4
          have x0 : W9.cell? ⟨w.heap.size, 0, none⟩ = some (.int .i64 ep) := (cell_of_row _ _ 0 _ _ _ HS3.out).trans rfl
          have x0A : (W9.alloc (.cells #[] 42 (0, 0))).cell? ⟨w.heap.size, 0, none⟩ = some (.int .i64 ep) := (cell_of_row _ _ 0 _ _ _ (blk_alloc HS3.out _)).trans rfl
          have x1 : W9.cell? ⟨w.heap.size, 1, none⟩ = some (.int .i64 (T.length : Int)) := (cell_of_row _ _ 1 _ _ _ HS3.out).trans rfl
          have x1A : (W9.alloc (.cells #[] 42 (0, 0))).cell? ⟨w.heap.size, 1, none⟩ = some (.int .i64 (T.length : Int)) := (cell_of_row _ _ 1 _ _ _ (blk_alloc HS3.out _)).trans rfl
          have x2 : W9.cell? ⟨w.heap.size, 2, none⟩ = some (.int .i64 k) := (cell_of_row _ _ 2 _ _ _ HS3.out).trans rfl
          have x2A : (W9.alloc (.cells #[] 42 (0, 0))).cell? ⟨w.heap.size, 2, none⟩ = some (.int .i64 k) := (cell_of_row _ _ 2 _ _ _ (blk_alloc HS3.out _)).trans rfl
          have x3 : W9.cell? ⟨w.heap.size, 3, none⟩ = some (.string x) := (cell_of_row _ _ 3 _ _ _ HS3.out).trans rfl
          have x3A : (W9.alloc (.cells #[] 42 (0, 0))).cell? ⟨w.heap.size, 3, none⟩ = some (.string x) := (cell_of_row _ _ 3 _ _ _ (blk_alloc HS3.out _)).trans rfl
          have x4 : W9.cell? ⟨w.heap.size, 4, none⟩ = some (.string o) := (cell_of_row _ _ 4 _ _ _ HS3.out).trans rfl
          have x4A : (W9.alloc (.cells #[] 42 (0, 0))).cell? ⟨w.heap.size, 4, none⟩ = some (.string o) := (cell_of_row _ _ 4 _ _ _ (blk_alloc HS3.out _)).trans rfl
          have x5 : W9.cell? ⟨w.heap.size, 5, none⟩ = some (.string y) := (cell_of_row _ _ 5 _ _ _ HS3.out).trans rfl
          have x5A : (W9.alloc (.cells #[] 42 (0, 0))).cell? ⟨w.heap.size, 5, none⟩ = some (.string y) := (cell_of_row _ _ 5 _ _ _ (blk_alloc HS3.out _)).trans rfl
          have x6 : W9.cell? ⟨w.heap.size, 6, none⟩ = some (.int .i64 t) := (cell_of_row _ _ 6 _ _ _ HS3.out).trans rfl
          have x6A : (W9.alloc (.cells #[] 42 (0, 0))).cell? ⟨w.heap.size, 6, none⟩ = some (.int .i64 t) := (cell_of_row _ _ 6 _ _ _ (blk_alloc HS3.out _)).trans rfl
          have x7 : W9.cell? ⟨w.heap.size, 7, none⟩ = some (.int .i64 u) := (cell_of_row _ _ 7 _ _ _ HS3.out).trans rfl
          have x7A : (W9.alloc (.cells #[] 42 (0, 0))).cell? ⟨w.heap.size, 7, none⟩ = some (.int .i64 u) := (cell_of_row _ _ 7 _ _ _ (blk_alloc HS3.out _)).trans rfl
          go_region_law (first
            | ((refine step_appXs ?_ (.tmp 148) (.tmp 149) 50 42 _ 88 ?_ Tryz.underlying50 info_rcJ rfl (by omega) (by omega) rcJ_len rcJ_one W9.heap.size W9 ?_ ?_ (.slice (some ⟨W9.heap.size, 0, none⟩) 0 0) [] ?_ (OwX.zero (cs := #[]) ?_ (Nat.le_refl _) (Nat.zero_le _) rfl) Aw T.length cw T ?_ (HRT.out.below ?_) ?_ ?_; (rfl); (rfl); (first | exact belJ_one _ _ | exact belJ_two _ _ _); (first | exact Nat.le_of_lt (sizJ_one _ _) | exact Nat.le_of_lt (sizJ_old _ _ _)); (rfl); (first | exact newJ_one _ _ | exact (newJ_two _ _ _).1 | exact (newJ_two _ _ _).2); (rfl); (first | exact belJ_one _ _ | exact belJ_two _ _ _); (simp; omega); intro v1 w1 HO1 HB1 HZ1 HG1; have y0 : w1.cell? ⟨w.heap.size, 0, none⟩ = some (.int .i64 ep) := (cell_of_row _ _ 0 _ _ _ ((HB1.out.block w.heap.size HLT.out).trans HS3.out)).trans rfl; have y1 : w1.cell? ⟨w.heap.size, 1, none⟩ = some (.int .i64 (T.length : Int)) := (cell_of_row _ _ 1 _ _ _ ((HB1.out.block w.heap.size HLT.out).trans HS3.out)).trans rfl; have y2 : w1.cell? ⟨w.heap.size, 2, none⟩ = some (.int .i64 k) := (cell_of_row _ _ 2 _ _ _ ((HB1.out.block w.heap.size HLT.out).trans HS3.out)).trans rfl; have y3 : w1.cell? ⟨w.heap.size, 3, none⟩ = some (.string x) := (cell_of_row _ _ 3 _ _ _ ((HB1.out.block w.heap.size HLT.out).trans HS3.out)).trans rfl; have y4 : w1.cell? ⟨w.heap.size, 4, none⟩ = some (.string o) := (cell_of_row _ _ 4 _ _ _ ((HB1.out.block w.heap.size HLT.out).trans HS3.out)).trans rfl; have y5 : w1.cell? ⟨w.heap.size, 5, none⟩ = some (.string y) := (cell_of_row _ _ 5 _ _ _ ((HB1.out.block w.heap.size HLT.out).trans HS3.out)).trans rfl; have y6 : w1.cell? ⟨w.heap.size, 6, none⟩ = some (.int .i64 t) := (cell_of_row _ _ 6 _ _ _ ((HB1.out.block w.heap.size HLT.out).trans HS3.out)).trans rfl; have y7 : w1.cell? ⟨w.heap.size, 7, none⟩ = some (.int .i64 u) := (cell_of_row _ _ 7 _ _ _ ((HB1.out.block w.heap.size HLT.out).trans HS3.out)).trans rfl))
            | ((refine step_appXs ?_ (.tmp 148) (.tmp 149) 50 42 _ 88 ?_ Tryz.underlying50 info_rcJ rfl (by omega) (by omega) rcJ_len rcJ_one W9.heap.size W9 ?_ ?_ (.slice (some ⟨W9.heap.size + 1, 0, none⟩) 0 0) [] ?_ (OwX.zero (cs := #[]) ?_ (Nat.le_succ _) (Nat.zero_le _) rfl) Aw T.length cw T ?_ (HRT.out.below ?_) ?_ ?_; (rfl); (rfl); (first | exact belJ_one _ _ | exact belJ_two _ _ _); (first | exact Nat.le_of_lt (sizJ_one _ _) | exact Nat.le_of_lt (sizJ_old _ _ _)); (rfl); (first | exact newJ_one _ _ | exact (newJ_two _ _ _).1 | exact (newJ_two _ _ _).2); (rfl); (first | exact belJ_one _ _ | exact belJ_two _ _ _); (simp; omega); intro v1 w1 HO1 HB1 HZ1 HG1; have y0 : w1.cell? ⟨w.heap.size, 0, none⟩ = some (.int .i64 ep) := (cell_of_row _ _ 0 _ _ _ ((HB1.out.block w.heap.size HLT.out).trans HS3.out)).trans rfl; have y1 : w1.cell? ⟨w.heap.size, 1, none⟩ = some (.int .i64 (T.length : Int)) := (cell_of_row _ _ 1 _ _ _ ((HB1.out.block w.heap.size HLT.out).trans HS3.out)).trans rfl; have y2 : w1.cell? ⟨w.heap.size, 2, none⟩ = some (.int .i64 k) := (cell_of_row _ _ 2 _ _ _ ((HB1.out.block w.heap.size HLT.out).trans HS3.out)).trans rfl; have y3 : w1.cell? ⟨w.heap.size, 3, none⟩ = some (.string x) := (cell_of_row _ _ 3 _ _ _ ((HB1.out.block w.heap.size HLT.out).trans HS3.out)).trans rfl; have y4 : w1.cell? ⟨w.heap.size, 4, none⟩ = some (.string o) := (cell_of_row _ _ 4 _ _ _ ((HB1.out.block w.heap.size HLT.out).trans HS3.out)).trans rfl; have y5 : w1.cell? ⟨w.heap.size, 5, none⟩ = some (.string y) := (cell_of_row _ _ 5 _ _ _ ((HB1.out.block w.heap.size HLT.out).trans HS3.out)).trans rfl; have y6 : w1.cell? ⟨w.heap.size, 6, none⟩ = some (.int .i64 t) := (cell_of_row _ _ 6 _ _ _ ((HB1.out.block w.heap.size HLT.out).trans HS3.out)).trans rfl; have y7 : w1.cell? ⟨w.heap.size, 7, none⟩ = some (.int .i64 u) := (cell_of_row _ _ 7 _ _ _ ((HB1.out.block w.heap.size HLT.out).trans HS3.out)).trans rfl))
            | ((refine step_appX ?_ (.tmp 150) (.tmp 152) 50 42 _ 88 ?_ Tryz.underlying50 info_rcJ rfl (by omega) (by omega) rcJ_len rcJ_one W9.heap.size W9 (HB1.out.alloc HZ1.out _) ?_ v1 ([] ++ T) ?_ (HO1.out.alloc _) w1.heap.size 1 (ep, (T.length : Int), k, x, o, y, t, u) #[.int .i64 ep, .int .i64 (T.length : Int), .int .i64 k, .string x, .string o, .string y, .int .i64 t, .int .i64 u] 42 (0, 0) ?_ (heap_alloc_new w1 _) ?_ ?_ ?_; (rfl); (rfl); (have := HZ1.out; simp; omega); (rfl); (rfl); (rfl); (simp; omega); intro v2 w2 HO2 HB2 HZ2 HG2; obtain ⟨A9, c9, rfl, hr9, _, _⟩ := HO2.out.rd rcJ_len; clear HO2; generalize hM : ([] ++ T ++ [((ep, (T.length : Int), k, x, o, y, t, u) : RcJ)]) = M at hr9 ⊢))
            | ((refine step_appX ?_ (.tmp 150) (.tmp 152) 50 42 _ 88 ?_ Tryz.underlying50 info_rcJ rfl (by omega) (by omega) rcJ_len rcJ_one W9.heap.size W9 (HB1.out) HZ1.out v1 ([] ++ T) ?_ (HO1.out) (W9.heap.size + 1) 1 (ep, (T.length : Int), k, x, o, y, t, u) #[.int .i64 ep, .int .i64 (T.length : Int), .int .i64 k, .string x, .string o, .string y, .int .i64 t, .int .i64 u] 42 (0, 0) ?_ ((HG1.out.block _ (sizJ_two _ _ _) (ownJ_neN ?_ _ _)).trans ?_) ?_ ?_ ?_; (rfl); (rfl); (rfl); (rfl); (omega); (first | exact newJ_one _ _ | exact (newJ_two _ _ _).1 | exact (newJ_two _ _ _).2); (rfl); (simp; omega); intro v2 w2 HO2 HB2 HZ2 HG2; obtain ⟨A9, c9, rfl, hr9, _, _⟩ := HO2.out.rd rcJ_len; clear HO2; generalize hM : ([] ++ T ++ [((ep, (T.length : Int), k, x, o, y, t, u) : RcJ)]) = M at hr9 ⊢))
            | ((refine step_appX ?_ (.tmp 150) (.tmp 152) 50 42 _ 88 ?_ Tryz.underlying50 info_rcJ rfl (by omega) (by omega) rcJ_len rcJ_one W9.heap.size W9 (HB1.out) HZ1.out v1 ([] ++ T) ?_ (HO1.out) W9.heap.size 1 (ep, (T.length : Int), k, x, o, y, t, u) #[.int .i64 ep, .int .i64 (T.length : Int), .int .i64 k, .string x, .string o, .string y, .int .i64 t, .int .i64 u] 42 (0, 0) ?_ ((HG1.out.block _ (sizJ_old _ _ _) (ownJ_neN ?_ _ _)).trans ?_) ?_ ?_ ?_; (rfl); (rfl); (rfl); (rfl); (omega); (first | exact newJ_one _ _ | exact (newJ_two _ _ _).1 | exact (newJ_two _ _ _).2); (rfl); (simp; omega); intro v2 w2 HO2 HB2 HZ2 HG2; obtain ⟨A9, c9, rfl, hr9, _, _⟩ := HO2.out.rd rcJ_len; clear HO2; generalize hM : ([] ++ T ++ [((ep, (T.length : Int), k, x, o, y, t, u) : RcJ)]) = M at hr9 ⊢)))
          all_goals
            clear x0 x0A x1 x1A x2 x2A x3 x3A x4 x4A x5 x5A x6 x6A x7 x7A y0 y1 y2 y3 y4 y5 y6 y7
            have HM := Lib.hid hr9
            have HME : Hid (M = T ++ [(ep, (T.length : Int), k, x, o, y, t, u)]) := Lib.hid (by rw [← hM]; rfl)
            have HML : Hid (M.length = T.length + 1) := Lib.hid (by rw [HME.out]; simp)
            clear hM
            have HWB := Lib.hid (HB9.out.trans (HB2.out.mono HB9.out.size))
            have HRT2 := Lib.hid (HRT.out.below HB2.out)
            have HRG2 := Lib.hid (HRG.out.below HB2.out)
            have HTB : Hid (∀ W, Below w.heap.size w W → Tab W) := Lib.hid (fun W hb j hj => by rw [World.cell?_of_block (hb.block _ hg0)]; exact HTw.out j hj)
            clear HO1 HB1 HZ1 HG1 HB2 HZ2 HG2 hr9 HRT HRG HB9 HS3
            rcases HGZ.out with ⟨hz1, rfl⟩ | ⟨hz2, hGM⟩
            · have b1 : (z != 0) = true := by simpa using hz1
              have HS := Lib.hid (rsame38_yes A8 G.length c8 G Aw cw w2 HRG2.out HRT2.out (by omega))
              go_wp2_with fail
              refine HS.out.mono ?_
              rintro e wa ⟨rfl, hba⟩
              have HBA := Lib.hid (HWB.out.trans (hba.mono HWB.out.size))
              clear hba
              go_wp2_with fail
              refine (awake38_any _ (HTB.out _ HBA.out)).mono ?_
              rintro e wb ⟨rfl, hbb⟩
              have HBB := Lib.hid (HBA.out.trans (hbb.mono HBA.out.size))
              clear hbb
              go_wp2_with fail
              go_ret
              exact ⟨rfl, HBB.out⟩
            · have b2 : (z != 2) = true := by simpa using hz2
              have HRM : Hid (RdX rcJ 8 w2 A8 M.length M) := Lib.hid (by have q := HRG2.out; rw [hGM, ← HME.out] at q; exact q)
              have e9 : G.length = M.length := by rw [hGM, ← HME.out]
              rw [e9]
              clear e9 hGM HRG2 HME HGZ
              by_cases hz0 : z = 0
              · subst hz0
                have HS := Lib.hid (fun (W : World) (hb : Below w2.heap.size w2 W) => rsame38_yes A8 M.length c8 M A9 c9 W (HRM.out.below hb) (HM.out.below hb) (by have := HML.out; omega))
                go_wp2_with fail
                refine (HS.out _ (Below.refl _ _)).mono ?_
                rintro e wa ⟨rfl, hba⟩
                have HBA := Lib.hid (HWB.out.trans (hba.mono HWB.out.size))
                clear hba
                go_wp2_with fail
                refine (awake38_any _ (HTB.out _ HBA.out)).mono ?_
                rintro e wb ⟨rfl, hbb⟩
                have HBB := Lib.hid (HBA.out.trans (hbb.mono HBA.out.size))
                clear hbb
                go_wp2_with fail
                go_ret
                exact ⟨rfl, HBB.out⟩
              · have b1 : (z != 0) = true := by simpa using hz0
                have HNO := Lib.hid (rsame38_no A8 M.length c8 Aw T.length cw w2 (by have := HML.out; omega))
                have HS := Lib.hid (fun (W : World) (hb : Below w2.heap.size w2 W) => rsame38_yes A8 M.length c8 M A9 c9 W (HRM.out.below hb) (HM.out.below hb) (by have := HML.out; omega))
                go_wp2_with fail
                refine HNO.out.mono ?_
                rintro e wn ⟨rfl, hbn⟩
                have HBN := Lib.hid hbn
                clear hbn
                go_wp2_with fail
                refine (HS.out _ HBN.out).mono ?_
                rintro e wa ⟨rfl, hba⟩
                have HBA := Lib.hid ((HWB.out.trans (HBN.out.mono HWB.out.size)).trans (hba.mono (Nat.le_trans HWB.out.size HBN.out.size)))
                clear hba
                go_wp2_with fail
                refine (awake38_any _ (HTB.out _ HBA.out)).mono ?_
                rintro e wb ⟨rfl, hbb⟩
                have HBB := Lib.hid (HBA.out.trans (hbb.mono HBA.out.size))
                clear hbb
                go_wp2_with fail
                go_ret
                exact ⟨rfl, HBB.out⟩
end Go.Proofs.YtiflieaemgamkaaGreatDoor
