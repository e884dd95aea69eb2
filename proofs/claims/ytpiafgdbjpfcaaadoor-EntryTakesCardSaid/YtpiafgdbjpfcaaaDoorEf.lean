/- The contracts of entry.Put of what may not be, and of the document's Put of layer 10, over this translation. Condition: texts of at most nine hundred bytes. -/
import Derived.Test.YtpiafgdbjpfcaaaDoorEc
namespace Go.Proofs.YtpiafgdbjpfcaaaDoor
open Go.RowKit Vi Cm

theorem erput_no (a b k : Int) (x o n : ByteArray) (t u : Int) (w : World) (hx : x.size ≤ maxLen) (h : rok a b k x o n t u = false) :
    Calls Tryd.prog 17 #[.agg #[.int .i64 a, .int .i64 b, .int .i64 k, .string x, .string o, .string n, .int .i64 t, .int .i64 u]] w fun e w' => e = .returned (.tuple #[.string ⟨#[]⟩, .int .i64 2]) ∧ Below w.heap.size w w' := by
  have HCK := Lib.hid (fun W : World => rcheck_any a b k x o n t u W hx)
  rw [← errR_no h] at HCK
  clear h hx
  have HB1 := Lib.hid (Below.refl w.heap.size w)
  go_enter Tryd.func17, Tryd.ntmps17
  go_wp2_with fail
  have HF2 := Lib.hid (blk_new w (.cells #[.int .i64 a, .int .i64 b, .int .i64 k, .string x, .string o, .string n, .int .i64 t, .int .i64 u] 37 (0, 0)))
  have HB3 := Lib.hid (HB1.out.alloc HB1.out.size (.cells #[.int .i64 a, .int .i64 b, .int .i64 k, .string x, .string o, .string n, .int .i64 t, .int .i64 u] 37 (0, 0)))
  clear HB1
  refine (HCK.out (w.alloc (.cells #[.int .i64 a, .int .i64 b, .int .i64 k, .string x, .string o, .string n, .int .i64 t, .int .i64 u] 37 (0, 0)))).mono ?_
  rintro e w1 ⟨rfl, hb1⟩
  have HF4 := Lib.hid (blk_below HF2.out hb1)
  have HB5 := Lib.hid (HB3.out.trans (hb1.mono HB3.out.size))
  clear hb1 HB3 HF2
  go_wp2_with fail
  go_ret2
  exact ⟨rfl, HB5.out⟩
/-- what the document's Put answers -/
def recD (a b k : Int) (x o n : ByteArray) (t u : Int) : ByteArray := if rok a b k x o n t u = true then recS a b k x o n t u else ⟨#[]⟩
theorem body_flat (a b k : Int) (x o n : ByteArray) (t u : Int) : ((((((((⟨#[82]⟩ ++ pnb a) ++ pnb b) ++ pnb k) ++ ptxH x) ++ ptxH o) ++ ptxH n) ++ pnb t) ++ pnb u : ByteArray) = bodyR a b k x o n t u := by
  unfold bodyR
  simp only [catN, catT, app_emp, ByteArray.append_assoc]
set_option maxHeartbeats 4000000 in
set_option maxRecDepth 100000 in
theorem erputR_any (a b k : Int) (x o n : ByteArray) (t u : Int) (w : World) (hx : x.size ≤ maxLen) :
    Calls Tryd.prog 19 #[.agg #[.int .i64 a, .int .i64 b, .int .i64 k, .string x, .string o, .string n, .int .i64 t, .int .i64 u]] w fun e w' => e = .returned (.string (recD a b k x o n t u)) ∧ Below w.heap.size w w' := by
  have HIS := Lib.hid (fun W : World => ris_any a b k x o n t u W hx)
  cases h : rok a b k x o n t u with
  | false =>
    have HQ := Lib.hid (show (⟨#[]⟩ : ByteArray) = recD a b k x o n t u by unfold recD; rw [h]; rfl)
    rw [h] at HIS
    clear h hx
    have HB1 := Lib.hid (Below.refl w.heap.size w)
    go_enter Tryd.func19, Tryd.ntmps19
    go_wp2_with fail
    have HF2 := Lib.hid (blk_new w (.cells #[.int .i64 a, .int .i64 b, .int .i64 k, .string x, .string o, .string n, .int .i64 t, .int .i64 u] 37 (0, 0)))
    have HB3 := Lib.hid (HB1.out.alloc HB1.out.size (.cells #[.int .i64 a, .int .i64 b, .int .i64 k, .string x, .string o, .string n, .int .i64 t, .int .i64 u] 37 (0, 0)))
    clear HB1
    refine (HIS.out (w.alloc (.cells #[.int .i64 a, .int .i64 b, .int .i64 k, .string x, .string o, .string n, .int .i64 t, .int .i64 u] 37 (0, 0)))).mono ?_
    rintro e w1 ⟨rfl, hb1⟩
    have HF4 := Lib.hid (blk_below HF2.out hb1)
    have HB5 := Lib.hid (HB3.out.trans (hb1.mono HB3.out.size))
    clear hb1 HB3 HF2
    go_wp2_with fail
    go_ret
    exact ⟨retSY HQ.out, HB5.out⟩
  | true =>
    have HQ := Lib.hid (show fullS (ptxH (sealH (bodyR a b k x o n t u))) = recD a b k x o n t u by unfold recD; rw [if_pos h]; rfl)
    have bd := rok_bd h
    have bz := bodyR_size h
    have P0 := Lib.hid (fun W : World => (show Calls Tryd.prog 44 #[.int .i64 a] W fun e w' => e = .returned (.string (pnb a)) ∧ Below W.heap.size W w' from refPutNum_any a W (by omega)))
    have P1 := Lib.hid (fun W : World => (show Calls Tryd.prog 44 #[.int .i64 b] W fun e w' => e = .returned (.string (pnb b)) ∧ Below W.heap.size W w' from refPutNum_any b W (by omega)))
    have P2 := Lib.hid (fun W : World => (show Calls Tryd.prog 44 #[.int .i64 k] W fun e w' => e = .returned (.string (pnb k)) ∧ Below W.heap.size W w' from refPutNum_any k W (by omega)))
    have P3 := Lib.hid (fun W : World => (show Calls Tryd.prog 45 #[.string x] W fun e w' => e = .returned (.string (ptxH x)) ∧ Below W.heap.size W w' from refPutText_any x W (by omega)))
    have P4 := Lib.hid (fun W : World => (show Calls Tryd.prog 45 #[.string o] W fun e w' => e = .returned (.string (ptxH o)) ∧ Below W.heap.size W w' from refPutText_any o W (by omega)))
    have P5 := Lib.hid (fun W : World => (show Calls Tryd.prog 45 #[.string n] W fun e w' => e = .returned (.string (ptxH n)) ∧ Below W.heap.size W w' from refPutText_any n W (by omega)))
    have P6 := Lib.hid (fun W : World => (show Calls Tryd.prog 44 #[.int .i64 t] W fun e w' => e = .returned (.string (pnb t)) ∧ Below W.heap.size W w' from refPutNum_any t W (by omega)))
    have P7 := Lib.hid (fun W : World => (show Calls Tryd.prog 44 #[.int .i64 u] W fun e w' => e = .returned (.string (pnb u)) ∧ Below W.heap.size W w' from refPutNum_any u W (by omega)))
    have HSE := Lib.hid (fun W : World => rsealed_any (bodyR a b k x o n t u) W (by omega))
    generalize fullS (ptxH (sealH (bodyR a b k x o n t u))) = X at HQ HSE
    rw [← body_flat] at HSE
    have z0 := pnb_size a
    have z1 := pnb_size b
    have z2 := pnb_size k
    have z3 := ptxH_size x
    have z4 := ptxH_size o
    have z5 := ptxH_size n
    have z6 := pnb_size t
    have z7 := pnb_size u
    rw [h] at HIS
    generalize pnb a = p0 at P0 HSE z0
    generalize pnb b = p1 at P1 HSE z1
    generalize pnb k = p2 at P2 HSE z2
    generalize ptxH x = p3 at P3 HSE z3
    generalize ptxH o = p4 at P4 HSE z4
    generalize ptxH n = p5 at P5 HSE z5
    generalize pnb t = p6 at P6 HSE z6
    generalize pnb u = p7 at P7 HSE z7
    obtain ⟨s0, t0⟩ : ∃ s, s = (⟨#[82]⟩ ++ p0 : ByteArray) := ⟨_, rfl⟩
    obtain ⟨s1, t1⟩ : ∃ s, s = s0 ++ p1 := ⟨_, rfl⟩
    obtain ⟨s2, t2⟩ : ∃ s, s = s1 ++ p2 := ⟨_, rfl⟩
    obtain ⟨s3, t3⟩ : ∃ s, s = s2 ++ p3 := ⟨_, rfl⟩
    obtain ⟨s4, t4⟩ : ∃ s, s = s3 ++ p4 := ⟨_, rfl⟩
    obtain ⟨s5, t5⟩ : ∃ s, s = s4 ++ p5 := ⟨_, rfl⟩
    obtain ⟨s6, t6⟩ : ∃ s, s = s5 ++ p6 := ⟨_, rfl⟩
    obtain ⟨s7, t7⟩ : ∃ s, s = s6 ++ p7 := ⟨_, rfl⟩
    have y0 : s0.size = 1 + p0.size := by rw [t0, ByteArray.size_append]; rfl
    have y1 : s1.size = s0.size + p1.size := by rw [t1, ByteArray.size_append]
    have y2 : s2.size = s1.size + p2.size := by rw [t2, ByteArray.size_append]
    have y3 : s3.size = s2.size + p3.size := by rw [t3, ByteArray.size_append]
    have y4 : s4.size = s3.size + p4.size := by rw [t4, ByteArray.size_append]
    have y5 : s5.size = s4.size + p5.size := by rw [t5, ByteArray.size_append]
    have y6 : s6.size = s5.size + p6.size := by rw [t6, ByteArray.size_append]
    have y7 : s7.size = s6.size + p7.size := by rw [t7, ByteArray.size_append]
    have q0 : ∀ W, (Op.stringOp .add ⟨#[82]⟩ p0).run Tryd.prog W = .ok (.string s0) W := fun W => by rw [t0]; exact run_string_add_sum W _ _ (by show 1 + p0.size ≤ _; omega)
    have q1 : ∀ W, (Op.stringOp .add s0 p1).run Tryd.prog W = .ok (.string s1) W := fun W => by rw [t1]; exact run_string_add_sum W _ _ (by omega)
    have q2 : ∀ W, (Op.stringOp .add s1 p2).run Tryd.prog W = .ok (.string s2) W := fun W => by rw [t2]; exact run_string_add_sum W _ _ (by omega)
    have q3 : ∀ W, (Op.stringOp .add s2 p3).run Tryd.prog W = .ok (.string s3) W := fun W => by rw [t3]; exact run_string_add_sum W _ _ (by omega)
    have q4 : ∀ W, (Op.stringOp .add s3 p4).run Tryd.prog W = .ok (.string s4) W := fun W => by rw [t4]; exact run_string_add_sum W _ _ (by omega)
    have q5 : ∀ W, (Op.stringOp .add s4 p5).run Tryd.prog W = .ok (.string s5) W := fun W => by rw [t5]; exact run_string_add_sum W _ _ (by omega)
    have q6 : ∀ W, (Op.stringOp .add s5 p6).run Tryd.prog W = .ok (.string s6) W := fun W => by rw [t6]; exact run_string_add_sum W _ _ (by omega)
    have q7 : ∀ W, (Op.stringOp .add s6 p7).run Tryd.prog W = .ok (.string s7) W := fun W => by rw [t7]; exact run_string_add_sum W _ _ (by omega)
    rw [← t0, ← t1, ← t2, ← t3, ← t4, ← t5, ← t6, ← t7] at HSE
    clear h hx bd bz t0 t1 t2 t3 t4 t5 t6 t7 y0 y1 y2 y3 y4 y5 y6 y7 z0 z1 z2 z3 z4 z5 z6 z7
    have HB1 := Lib.hid (Below.refl w.heap.size w)
    go_enter Tryd.func19, Tryd.ntmps19
    go_wp2_with fail
    have HF2 := Lib.hid (blk_new w (.cells #[.int .i64 a, .int .i64 b, .int .i64 k, .string x, .string o, .string n, .int .i64 t, .int .i64 u] 37 (0, 0)))
    have HB3 := Lib.hid (HB1.out.alloc HB1.out.size (.cells #[.int .i64 a, .int .i64 b, .int .i64 k, .string x, .string o, .string n, .int .i64 t, .int .i64 u] 37 (0, 0)))
    clear HB1
    refine (HIS.out (w.alloc (.cells #[.int .i64 a, .int .i64 b, .int .i64 k, .string x, .string o, .string n, .int .i64 t, .int .i64 u] 37 (0, 0)))).mono ?_
    rintro e w1 ⟨rfl, hb1⟩
    have HF4 := Lib.hid (blk_below HF2.out hb1)
    have HB5 := Lib.hid (HB3.out.trans (hb1.mono HB3.out.size))
    clear hb1 HB3 HF2
    have hc6 : w1.cell? ⟨w.heap.size, 0, none⟩ = some (.int .i64 a) := by rw [cell_of_row _ _ _ _ _ _ HF4.out]; rfl
    have hc7 : w1.cell? ⟨w.heap.size, 1, none⟩ = some (.int .i64 b) := by rw [cell_of_row _ _ _ _ _ _ HF4.out]; rfl
    have hc8 : w1.cell? ⟨w.heap.size, 2, none⟩ = some (.int .i64 k) := by rw [cell_of_row _ _ _ _ _ _ HF4.out]; rfl
    go_wp2_with fail
    have hr9 := fun d os => cell_regrown hc6 d os
    have hr10 := fun d os => cell_regrown hc7 d os
    have hr11 := fun d os => cell_regrown hc8 d os
    refine wp_region_quiet_below (by kernel_rfl) (by kernel_rfl) ?_
    repeat (any_goals (first | go_big_quiet_step ((first | (first | (go_at_call 44; exact Calls.regrown_of (P0.out _)) | (go_at_call 44; exact Calls.regrown_of (P1.out _)) | (go_at_call 44; exact Calls.regrown_of (P2.out _))))) | quiet_step ((first | (first | (go_at_call 44; exact Calls.regrown_of (P0.out _)) | (go_at_call 44; exact Calls.regrown_of (P1.out _)) | (go_at_call 44; exact Calls.regrown_of (P2.out _)))))))
    refine wpQuiet_nil ?_
    intro w2 hw2
    have hb2 := below_anyY hw2
    clear hw2 hr9 hr10 hr11
    clear hc6 hc7 hc8
    have HF12 := Lib.hid (blk_below HF4.out hb2)
    have HB13 := Lib.hid (HB5.out.trans (hb2.mono HB5.out.size))
    clear hb2 HB5 HF4
    have hc14 : w2.cell? ⟨w.heap.size, 3, none⟩ = some (.string x) := by rw [cell_of_row _ _ _ _ _ _ HF12.out]; rfl
    have hc15 : w2.cell? ⟨w.heap.size, 4, none⟩ = some (.string o) := by rw [cell_of_row _ _ _ _ _ _ HF12.out]; rfl
    have hc16 : w2.cell? ⟨w.heap.size, 5, none⟩ = some (.string n) := by rw [cell_of_row _ _ _ _ _ _ HF12.out]; rfl
    go_wp2_with fail
    have hr17 := fun d os => cell_regrown hc14 d os
    have hr18 := fun d os => cell_regrown hc15 d os
    have hr19 := fun d os => cell_regrown hc16 d os
    refine wp_region_quiet_below (by kernel_rfl) (by kernel_rfl) ?_
    repeat (any_goals (first | go_big_quiet_step ((first | (first | (go_at_call 45; exact Calls.regrown_of (P3.out _)) | (go_at_call 45; exact Calls.regrown_of (P4.out _)) | (go_at_call 45; exact Calls.regrown_of (P5.out _))))) | quiet_step ((first | (first | (go_at_call 45; exact Calls.regrown_of (P3.out _)) | (go_at_call 45; exact Calls.regrown_of (P4.out _)) | (go_at_call 45; exact Calls.regrown_of (P5.out _)))))))
    refine wpQuiet_nil ?_
    intro w3 hw3
    have hb3 := below_anyY hw3
    clear hw3 hr17 hr18 hr19
    clear hc14 hc15 hc16
    have HF20 := Lib.hid (blk_below HF12.out hb3)
    have HB21 := Lib.hid (HB13.out.trans (hb3.mono HB13.out.size))
    clear hb3 HB13 HF12
    have hc22 : w3.cell? ⟨w.heap.size, 6, none⟩ = some (.int .i64 t) := by rw [cell_of_row _ _ _ _ _ _ HF20.out]; rfl
    have hc23 : w3.cell? ⟨w.heap.size, 7, none⟩ = some (.int .i64 u) := by rw [cell_of_row _ _ _ _ _ _ HF20.out]; rfl
    go_wp2_with fail
    have hr24 := fun d os => cell_regrown hc22 d os
    have hr25 := fun d os => cell_regrown hc23 d os
    refine wp_region_quiet_below (by kernel_rfl) (by kernel_rfl) ?_
    repeat (any_goals (first | go_big_quiet_step ((first | (first | (go_at_call 44; exact Calls.regrown_of (P6.out _)) | (go_at_call 44; exact Calls.regrown_of (P7.out _))) | (go_at_call 46; exact Calls.regrown_of (HSE.out _)))) | quiet_step ((first | (first | (go_at_call 44; exact Calls.regrown_of (P6.out _)) | (go_at_call 44; exact Calls.regrown_of (P7.out _))) | (go_at_call 46; exact Calls.regrown_of (HSE.out _))))))
    refine wpQuiet_nil ?_
    intro w4 hw4
    have hb4 := below_anyY hw4
    clear hw4 hr24 hr25
    clear hc22 hc23
    have HF26 := Lib.hid (blk_below HF20.out hb4)
    have HB27 := Lib.hid (HB21.out.trans (hb4.mono HB21.out.size))
    clear hb4 HB21 HF20
    go_wp2_with fail
    go_ret
    exact ⟨retSY HQ.out, HB27.out⟩
end Go.Proofs.YtpiafgdbjpfcaaaDoor
