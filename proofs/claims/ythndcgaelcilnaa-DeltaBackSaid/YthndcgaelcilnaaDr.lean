/- The contract of delta.read over this translation. Condition: texts of at most a million bytes. -/
import Derived.Test.YthndcgaelcilnaaDq
import Derived.Test.YthndcgaelcilnaaSu
import Derived.Test.YthndcgaelcilnaaZb
import Derived.Deep.DeepCutAuto
namespace Go.Proofs.Ythndcgaelcilnaa
open Go.RowKit Vi

theorem info_pcD (a b c d : Value) : (Try.prog.info? 26).map (·.size) = some (#[a, b, c, d] : Array Value).size := by kernel_rfl
theorem one_pcD (c : Bool) (a n : Int) (o : ByteArray) : (#[.bool c, .int .i64 a, .int .i64 n, .string o] : Array Value).all (·.oneCell') = true := by simp [Value.oneCell']
theorem results_cD {fn : Func} {p : Tmp} {ty : TypeId} (h : fn.results = #[.cell p ty]) (tmps : Array Value) (w : World) (g : Nat) (cs : Array Value)
    (hp : tmps.getD p undef = .pointer (some ⟨g, 0, none⟩)) (hr : (loadVar ty ⟨g, 0, none⟩).run Try.prog w = .ok (.agg cs) w) :
    (results fn tmps).run Try.prog w = .ok (.agg cs) w := by
  have hp' : tmps[p]?.getD undef = .pointer (some ⟨g, 0, none⟩) := by simpa using hp
  simp [results, h, hp', asAddr, hr]
theorem but_rowD {B : Nat} {w W W' : World} (h : But B w W) (hb : Below w.heap.size W W') : But B w W' :=
  ⟨hb.os.trans h.os, hb.tape.trans h.tape, hb.output.trans h.output, Nat.le_trans h.size hb.size, fun i hi hne => (hb.block i hi).trans (h.block i hi hne)⟩
theorem fix_szD (S : ByteArray) (q : Nat) (er n : Int) : (Rd.fix S q er n).1.size ≤ S.size := Rd.fix_size S q er n
set_option maxHeartbeats 4000000 in
set_option maxRecDepth 100000 in
theorem dread_any (w : World) (B : Nat) (S : ByteArray) (q : Nat) (p : Pc) (q' : Nat) (e' : Int) (hS : S.size ≤ 1000000) (hq : q ≤ S.size) (h : Sc w B true S q 0) (hr : rdp 131073 65536 S q = (p, q', e')) :
    Calls Try.prog 89 #[.pointer (some ⟨B, 0, none⟩)] w fun e w' => e = .returned (.agg #[.bool p.1, .int .i64 p.2.1, .int .i64 p.2.2.1, .string p.2.2.2]) ∧ Sc w' B true S q' e' ∧ But B w w' := by
  have hBlt := h.lt
  obtain ⟨v, q1, e1, hR⟩ : ∃ v q1 e1, Rd.num S q 0 131073 = (v, q1, e1) := ⟨_, _, _, rfl⟩
  have hq1 := Rd.num_le S q 0 131073 hq
  have hv := Rd.num_bd S q 0 131073 (by omega)
  have H1 := Lib.hid (fun (W : World) (g : Sc W B true S q 0) => numU W B S q 0 131073 hS hq g (by omega))
  rw [hR] at hq1 hv H1
  dsimp only at hq1 hv H1
  obtain ⟨hv0, hv1⟩ := hv
  unfold rdp at hr
  rw [hR] at hr
  dsimp only at hr
  by_cases hm : v % 2 = 1
  · rw [if_pos hm] at hr
    obtain ⟨a, q2, e2, hR2⟩ : ∃ a q2 e2, Rd.num S q1 e1 65536 = (a, q2, e2) := ⟨_, _, _, rfl⟩
    have H2 := Lib.hid (fun (W : World) (g : Sc W B true S q1 e1) => numU W B S q1 e1 65536 hS hq1 g (by omega))
    rw [hR2] at H2 hr
    dsimp only at H2
    simp only [Prod.mk.injEq] at hr
    obtain ⟨rfl, rfl, rfl⟩ := hr
    dsimp only
    have hbt : (v % 2 == 1) = true := by rw [hm]; rfl
    clear hR hR2 hm hq1 hq
    have HK1 := Lib.hid (But.refl B w)
    have HS2 := Lib.hid h
    clear h
    go_enter Try.func89, Try.ntmps89
    go_wp2_with fail
    have HF3 := Lib.hid (blk_new w (.cells #[.bool false, .int .i64 0, .int .i64 0, .string ⟨#[]⟩] 26 (0, 0)))
    have HK4 := Lib.hid (HK1.out.alloc (.cells #[.bool false, .int .i64 0, .int .i64 0, .string ⟨#[]⟩] 26 (0, 0)))
    clear HK1
    have HS5 := Lib.hid (HS2.out.alloc (.cells #[.bool false, .int .i64 0, .int .i64 0, .string ⟨#[]⟩] 26 (0, 0)))
    clear HS2
    refine (H1.out (w.alloc (.cells #[.bool false, .int .i64 0, .int .i64 0, .string ⟨#[]⟩] 26 (0, 0))) HS5.out).mono ?_
    rintro e w1 ⟨rfl, hs, hk⟩
    have HF6 := Lib.hid (blk_but HF3.out hk (by omega))
    have HK7 := Lib.hid (HK4.out.trans hk)
    have HS8 := Lib.hid (hs)
    clear hs hk HK4 HS5 HF3
    have hk9 := HK7.out.size
    have hk10 : w.heap.size < w1.heap.size := lt_of_block HF6.out
    have HF11 := Lib.hid (blk_alloc HF6.out (.cells #[.bool true, .int .i64 0, .int .i64 (v / 2), .string ⟨#[]⟩] 26 (0, 0)))
    have HF12 := Lib.hid (blk_new w1 (.cells #[.bool true, .int .i64 0, .int .i64 (v / 2), .string ⟨#[]⟩] 26 (0, 0)))
    have HK13 := Lib.hid (HK7.out.alloc (.cells #[.bool true, .int .i64 0, .int .i64 (v / 2), .string ⟨#[]⟩] 26 (0, 0)))
    clear HK7
    have HS14 := Lib.hid (HS8.out.alloc (.cells #[.bool true, .int .i64 0, .int .i64 (v / 2), .string ⟨#[]⟩] 26 (0, 0)))
    clear HS8
    have hc15 : (w1.alloc (.cells #[.bool true, .int .i64 0, .int .i64 (v / 2), .string ⟨#[]⟩] 26 (0, 0))).cell? ⟨w1.heap.size, 0, none⟩ = some (.bool true) := by rw [cell_of_row _ _ _ _ _ _ HF12.out]; rfl
    have hc16 : (w1.alloc (.cells #[.bool true, .int .i64 0, .int .i64 (v / 2), .string ⟨#[]⟩] 26 (0, 0))).cell? ⟨w1.heap.size, 1, none⟩ = some (.int .i64 0) := by rw [cell_of_row _ _ _ _ _ _ HF12.out]; rfl
    have hc17 : (w1.alloc (.cells #[.bool true, .int .i64 0, .int .i64 (v / 2), .string ⟨#[]⟩] 26 (0, 0))).cell? ⟨w1.heap.size, 2, none⟩ = some (.int .i64 (v / 2)) := by rw [cell_of_row _ _ _ _ _ _ HF12.out]; rfl
    have hc18 : (w1.alloc (.cells #[.bool true, .int .i64 0, .int .i64 (v / 2), .string ⟨#[]⟩] 26 (0, 0))).cell? ⟨w1.heap.size, 3, none⟩ = some (.string ⟨#[]⟩) := by rw [cell_of_row _ _ _ _ _ _ HF12.out]; rfl
    go_wp2_with fail
    clear hc15 hc16 hc17 hc18
    refine (H2.out (w1.alloc (.cells #[.bool true, .int .i64 0, .int .i64 (v / 2), .string ⟨#[]⟩] 26 (0, 0))) HS14.out).mono ?_
    rintro e w2 ⟨rfl, hs, hk⟩
    have HF19 := Lib.hid (blk_but HF11.out hk (by omega))
    have HF20 := Lib.hid (blk_but HF12.out hk (by omega))
    have HK21 := Lib.hid (HK13.out.trans hk)
    have HS22 := Lib.hid (hs)
    clear hs hk HK13 HS14 HF11 HF6 HF12
    have hk23 := HK21.out.size
    have hc24 : w2.cell? ⟨w1.heap.size, 0, none⟩ = some (.bool true) := by rw [cell_of_row _ _ _ _ _ _ HF20.out]; rfl
    have hc25 : w2.cell? ⟨w1.heap.size, 1, none⟩ = some (.int .i64 0) := by rw [cell_of_row _ _ _ _ _ _ HF20.out]; rfl
    have hc26 : w2.cell? ⟨w1.heap.size, 2, none⟩ = some (.int .i64 (v / 2)) := by rw [cell_of_row _ _ _ _ _ _ HF20.out]; rfl
    have hc27 : w2.cell? ⟨w1.heap.size, 3, none⟩ = some (.string ⟨#[]⟩) := by rw [cell_of_row _ _ _ _ _ _ HF20.out]; rfl
    have hz28 : w2.frozen? ⟨w1.heap.size, 1, none⟩ = false := frozen_of_row _ _ _ _ _ HF20.out
    go_upto_region 6 with (fail)
    clear hc24 hc25 hc26 hc27 hz28
    have HF29 := Lib.hid (show (w2.setCell ⟨w1.heap.size, 1, none⟩ (.int .i64 a)).heap[w.heap.size]? = some (.cells #[.bool false, .int .i64 0, .int .i64 0, .string ⟨#[]⟩] 26 (0, 0)) by rw [Below.heap_setCell _ _ _ _ (by show w.heap.size ≠ w1.heap.size; omega)]; exact HF19.out)
    have HF30 := Lib.hid (show (w2.setCell ⟨w1.heap.size, 1, none⟩ (.int .i64 a)).heap[w1.heap.size]? = some (.cells #[.bool true, .int .i64 a, .int .i64 (v / 2), .string ⟨#[]⟩] 26 (0, 0)) by have h := heap_setCell_at (i := 1) (u := .int .i64 a) HF20.out; exact h)
    have HK31 := Lib.hid (HK21.out.setNew (b := w1.heap.size) (by omega) 1 (.int .i64 a))
    have HS32 := Lib.hid (HS22.out.kept (show (w2.setCell ⟨w1.heap.size, 1, none⟩ (.int .i64 a)).heap[B]? = w2.heap[B]? from Below.heap_setCell _ _ _ _ (by show B ≠ w1.heap.size; omega)))
    go_wp2_with (first
      | refine wpList_store_rowY rfl 26 (.tmp 2) (.tmp 23) rfl (w.heap.size) #[.bool true, .int .i64 a, .int .i64 (v / 2), .string ⟨#[]⟩] rfl rfl 26 _ HF29.out (info_pcD _ _ _ _) rfl (one_pcD _ _ _ _) w.heap.size (w2.setCell ⟨w1.heap.size, 1, none⟩ (.int .i64 a)) (Below.refl _ _) (by omega) ?_
      | refine wpList_load_row rfl 26 (.tmp 4) rfl (w1.heap.size) rfl 26 #[.bool true, .int .i64 a, .int .i64 (v / 2), .string ⟨#[]⟩] (0, 0) _ HF30.out Try.underlying26 rfl (info_pcD _ _ _ _) ?_)
    intro W3 hbk hoth hbel _
    have HF33 := Lib.hid hbk.out
    have HF34 := Lib.hid (blk_oth HF30.out hoth.out (by omega))
    have HK35 := Lib.hid (but_row HK31.out hbel.out)
    have HS36 := Lib.hid (HS32.out.kept (hoth.out B (by omega)))
    clear hbk hoth hbel HK31 HS32 HF29 HF30
    go_wp2_with fail
    refine bodyPost_ret (results_cD rfl _ _ (w.heap.size) #[.bool true, .int .i64 a, .int .i64 (v / 2), .string ⟨#[]⟩] rfl (run_loadVar_row _ (w.heap.size) 26 26 _ (0, 0) _ HF33.out Try.underlying26 rfl (info_pcD _ _ _ _))) rfl ?_
    exact ⟨rfl, HS36.out, HK35.out⟩
  · rw [if_neg hm] at hr
    obtain ⟨o, q2, e2, hR2⟩ : ∃ a q2 e2, Rd.fix S q1 e1 (v / 2) = (a, q2, e2) := ⟨_, _, _, rfl⟩
    have H2 := Lib.hid (fun (W : World) (g : Sc W B true S q1 e1) => fixU W B S q1 e1 (v / 2) hS hq1 g)
    rw [hR2] at H2 hr
    dsimp only at H2
    simp only [Prod.mk.injEq] at hr
    obtain ⟨rfl, rfl, rfl⟩ := hr
    dsimp only
    have hbt : (v % 2 == 1) = false := by simpa using hm
    clear hR hR2 hm hq1 hq
    have HK1 := Lib.hid (But.refl B w)
    have HS2 := Lib.hid h
    clear h
    go_enter Try.func89, Try.ntmps89
    go_wp2_with fail
    have HF3 := Lib.hid (blk_new w (.cells #[.bool false, .int .i64 0, .int .i64 0, .string ⟨#[]⟩] 26 (0, 0)))
    have HK4 := Lib.hid (HK1.out.alloc (.cells #[.bool false, .int .i64 0, .int .i64 0, .string ⟨#[]⟩] 26 (0, 0)))
    clear HK1
    have HS5 := Lib.hid (HS2.out.alloc (.cells #[.bool false, .int .i64 0, .int .i64 0, .string ⟨#[]⟩] 26 (0, 0)))
    clear HS2
    refine (H1.out (w.alloc (.cells #[.bool false, .int .i64 0, .int .i64 0, .string ⟨#[]⟩] 26 (0, 0))) HS5.out).mono ?_
    rintro e w1 ⟨rfl, hs, hk⟩
    have HF6 := Lib.hid (blk_but HF3.out hk (by omega))
    have HK7 := Lib.hid (HK4.out.trans hk)
    have HS8 := Lib.hid (hs)
    clear hs hk HK4 HS5 HF3
    have hk9 := HK7.out.size
    have hk10 : w.heap.size < w1.heap.size := lt_of_block HF6.out
    have HF11 := Lib.hid (blk_alloc HF6.out (.cells #[.bool false, .int .i64 0, .int .i64 (v / 2), .string ⟨#[]⟩] 26 (0, 0)))
    have HF12 := Lib.hid (blk_new w1 (.cells #[.bool false, .int .i64 0, .int .i64 (v / 2), .string ⟨#[]⟩] 26 (0, 0)))
    have HK13 := Lib.hid (HK7.out.alloc (.cells #[.bool false, .int .i64 0, .int .i64 (v / 2), .string ⟨#[]⟩] 26 (0, 0)))
    clear HK7
    have HS14 := Lib.hid (HS8.out.alloc (.cells #[.bool false, .int .i64 0, .int .i64 (v / 2), .string ⟨#[]⟩] 26 (0, 0)))
    clear HS8
    have hc15 : (w1.alloc (.cells #[.bool false, .int .i64 0, .int .i64 (v / 2), .string ⟨#[]⟩] 26 (0, 0))).cell? ⟨w1.heap.size, 0, none⟩ = some (.bool false) := by rw [cell_of_row _ _ _ _ _ _ HF12.out]; rfl
    have hc16 : (w1.alloc (.cells #[.bool false, .int .i64 0, .int .i64 (v / 2), .string ⟨#[]⟩] 26 (0, 0))).cell? ⟨w1.heap.size, 1, none⟩ = some (.int .i64 0) := by rw [cell_of_row _ _ _ _ _ _ HF12.out]; rfl
    have hc17 : (w1.alloc (.cells #[.bool false, .int .i64 0, .int .i64 (v / 2), .string ⟨#[]⟩] 26 (0, 0))).cell? ⟨w1.heap.size, 2, none⟩ = some (.int .i64 (v / 2)) := by rw [cell_of_row _ _ _ _ _ _ HF12.out]; rfl
    have hc18 : (w1.alloc (.cells #[.bool false, .int .i64 0, .int .i64 (v / 2), .string ⟨#[]⟩] 26 (0, 0))).cell? ⟨w1.heap.size, 3, none⟩ = some (.string ⟨#[]⟩) := by rw [cell_of_row _ _ _ _ _ _ HF12.out]; rfl
    go_wp2_with fail
    clear hc15 hc16 hc17 hc18
    refine (H2.out (w1.alloc (.cells #[.bool false, .int .i64 0, .int .i64 (v / 2), .string ⟨#[]⟩] 26 (0, 0))) HS14.out).mono ?_
    rintro e w2 ⟨rfl, hs, hk⟩
    have HF19 := Lib.hid (blk_but HF11.out hk (by omega))
    have HF20 := Lib.hid (blk_but HF12.out hk (by omega))
    have HK21 := Lib.hid (HK13.out.trans hk)
    have HS22 := Lib.hid (hs)
    clear hs hk HK13 HS14 HF11 HF6 HF12
    have hk23 := HK21.out.size
    have hc24 : w2.cell? ⟨w1.heap.size, 0, none⟩ = some (.bool false) := by rw [cell_of_row _ _ _ _ _ _ HF20.out]; rfl
    have hc25 : w2.cell? ⟨w1.heap.size, 1, none⟩ = some (.int .i64 0) := by rw [cell_of_row _ _ _ _ _ _ HF20.out]; rfl
    have hc26 : w2.cell? ⟨w1.heap.size, 2, none⟩ = some (.int .i64 (v / 2)) := by rw [cell_of_row _ _ _ _ _ _ HF20.out]; rfl
    have hc27 : w2.cell? ⟨w1.heap.size, 3, none⟩ = some (.string ⟨#[]⟩) := by rw [cell_of_row _ _ _ _ _ _ HF20.out]; rfl
    have hz28 : w2.frozen? ⟨w1.heap.size, 3, none⟩ = false := frozen_of_row _ _ _ _ _ HF20.out
    go_upto_region 6 with (fail)
    clear hc24 hc25 hc26 hc27 hz28
    have HF29 := Lib.hid (show (w2.setCell ⟨w1.heap.size, 3, none⟩ (.string o)).heap[w.heap.size]? = some (.cells #[.bool false, .int .i64 0, .int .i64 0, .string ⟨#[]⟩] 26 (0, 0)) by rw [Below.heap_setCell _ _ _ _ (by show w.heap.size ≠ w1.heap.size; omega)]; exact HF19.out)
    have HF30 := Lib.hid (show (w2.setCell ⟨w1.heap.size, 3, none⟩ (.string o)).heap[w1.heap.size]? = some (.cells #[.bool false, .int .i64 0, .int .i64 (v / 2), .string o] 26 (0, 0)) by have h := heap_setCell_at (i := 3) (u := .string o) HF20.out; exact h)
    have HK31 := Lib.hid (HK21.out.setNew (b := w1.heap.size) (by omega) 3 (.string o))
    have HS32 := Lib.hid (HS22.out.kept (show (w2.setCell ⟨w1.heap.size, 3, none⟩ (.string o)).heap[B]? = w2.heap[B]? from Below.heap_setCell _ _ _ _ (by show B ≠ w1.heap.size; omega)))
    go_wp2_with (first
      | refine wpList_store_rowY rfl 26 (.tmp 2) (.tmp 23) rfl (w.heap.size) #[.bool false, .int .i64 0, .int .i64 (v / 2), .string o] rfl rfl 26 _ HF29.out (info_pcD _ _ _ _) rfl (one_pcD _ _ _ _) w.heap.size (w2.setCell ⟨w1.heap.size, 3, none⟩ (.string o)) (Below.refl _ _) (by omega) ?_
      | refine wpList_load_row rfl 26 (.tmp 4) rfl (w1.heap.size) rfl 26 #[.bool false, .int .i64 0, .int .i64 (v / 2), .string o] (0, 0) _ HF30.out Try.underlying26 rfl (info_pcD _ _ _ _) ?_)
    intro W3 hbk hoth hbel _
    have HF33 := Lib.hid hbk.out
    have HF34 := Lib.hid (blk_oth HF30.out hoth.out (by omega))
    have HK35 := Lib.hid (but_row HK31.out hbel.out)
    have HS36 := Lib.hid (HS32.out.kept (hoth.out B (by omega)))
    clear hbk hoth hbel HK31 HS32 HF29 HF30
    go_wp2_with fail
    refine bodyPost_ret (results_cD rfl _ _ (w.heap.size) #[.bool false, .int .i64 0, .int .i64 (v / 2), .string o] rfl (run_loadVar_row _ (w.heap.size) 26 26 _ (0, 0) _ HF33.out Try.underlying26 rfl (info_pcD _ _ _ _))) rfl ?_
    exact ⟨rfl, HS36.out, HK35.out⟩
end Go.Proofs.Ythndcgaelcilnaa
