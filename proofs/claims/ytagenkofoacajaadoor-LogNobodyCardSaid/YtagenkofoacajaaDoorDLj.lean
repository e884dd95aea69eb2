/- step of a write, and Write, over this translation. Conditions: counts that aren't near an integer's end, less than a million writes. -/
import Derived.Test.YtagenkofoacajaaDoorDLi
namespace Go.Proofs.YtagenkofoacajaaDoor
open Go.RowKit Vi

def wrtC (fu : Int) (CC : List Wr) (i : Int) (s : ByteArray) : List Wr := if fu = 1 then CC else CC ++ [(i, s)]
theorem dck_ok {n : Nat} {i : Int} {s : ByteArray} (h : dckE n i s = 0) : 0 ≤ i ∧ i < (n : Int) ∧ s.size = 128 := by
  unfold dckE at h
  split at h
  · next q =>
    split at h
    · next q2 => exact ⟨q.1, q.2, q2⟩
    · cases h
  · cases h
set_option maxRecDepth 100000 in
set_option maxHeartbeats 2000000 in
theorem dstep_write (X I Z D : Nat) (SS : List ByteArray) (CC : List Wr) (ops fu : Int) (i : Int) (s : ByteArray) (w : World) (h : DK D SS CC false ops fu w) (hx : w.heap[X]? = some (.cells #[.pointer (some ⟨D, 0, none⟩)] 24 (0, 0))) (hi : w.heap[I]? = some (.cells #[.int .i64 i] 3 (0, 0))) (hz : w.heap[Z]? = some (.cells #[.string s] 9 (0, 0))) (hok : 0 ≤ i ∧ i < (SS.length : Int) ∧ s.size = 128) (hl : CC.length + 1 ≤ 1000000) (ho : -1000000000 ≤ ops ∧ ops ≤ 1000000000) (hf : 0 ≤ fu ∧ fu ≤ 9223372036854775807) :
    Calls Tryd.prog 75 #[.pointer (some ⟨D, 0, none⟩), .func (.func 76) #[] #[.pointer (some ⟨X, 0, none⟩), .pointer (some ⟨I, 0, none⟩), .pointer (some ⟨Z, 0, none⟩)]] w fun e w' => e = .returned (.int .i64 (stpE fu)) ∧ DK D SS (wrtC fu CC i s) (stpD fu) (stpO ops fu) (stpF fu) w' ∧ Kd D w w' := by
  obtain ⟨⟨sa, sn, sc, ca, cn, cc, h1, h2, h3⟩, h4⟩ := h
  have hne : X ≠ D := fun e => by subst e; rw [h1] at hx; cases hx
  have hni : I ≠ D := fun e => by subst e; rw [h1] at hi; cases hi
  have hnz : Z ≠ D := fun e => by subst e; rw [h1] at hz; cases hz
  have HOK := Lib.hid hok
  have H1 := Lib.hid h1
  have H2 := Lib.hid h2
  have H3 := Lib.hid h3
  have H4 := Lib.hid h4
  obtain ⟨c0, c1, c2, c3, c4, c5⟩ := dk_cells h1
  by_cases hq : fu = 1
  · subst hq
    have HT := Lib.hid (dturn_any D sa sn sc ca cn cc true false ops 1 true w h1)
    clear h1 h2 h3 h4 hx hi hz hok
    go_enter Tryd.func75, Tryd.ntmps75
    go_wp2_with fail
    clear c0 c1 c2 c3 c4 c5
    refine HT.out.mono ?_
    rintro e w1 ⟨rfl, hb, hk⟩
    have HB := Lib.hid hb
    have HK := Lib.hid hk
    clear hb hk
    have HO2 := Lib.hid (H2.out.kkD HK.out H1.out (by decide))
    have HO3 := Lib.hid (H3.out.kkD HK.out H1.out (by decide))
    have HBl := Lib.hid (Kd.of_same HK.out H1.out HB.out)
    go_wp2_with fail
    go_ret
    exact ⟨rfl, ⟨⟨sa, sn, sc, ca, cn, cc, HB.out, HO2.out, HO3.out⟩, H4.out⟩, HBl.out⟩
  · have d1 : (fu == 1) = false := by rw [beq_eq_false_iff_ne]; exact hq
    have w1 : IntKind.i64.wrap (fu - 1) = fu - 1 := IntWalk.i64_in _ (by omega)
    have w2 : IntKind.i64.wrap (ops + 1) = ops + 1 := IntWalk.i64_in _ (by omega)
    have f4 : w.frozen? ⟨D, 4, none⟩ = false := frozen_of_row _ _ _ _ _ h1
    have f5 : w.frozen? ⟨D, 5, none⟩ = false := frozen_of_row _ _ _ _ _ h1
    have HQ := Lib.hid hq
    have HX := Lib.hid hx
    have HI := Lib.hid hi
    have HZ := Lib.hid hz
    clear h1 h2 h3 h4 hx hi hz hok hq
    go_enter Tryd.func75, Tryd.ntmps75
    go_wp2_with fail
    have HK := Lib.hid (((KK.refl [D] w).set (b := D) (by simp) 5 (.int .i64 (max (fu - 1) 0))).set (b := D) (by simp) 4 (.int .i64 (ops + 1)))
    have HB := Lib.hid (show ((w.setCell ⟨D, 5, none⟩ (.int .i64 (max (fu - 1) 0))).setCell ⟨D, 4, none⟩ (.int .i64 (ops + 1))).heap[D]? = some (dkO sa sn sc ca cn cc true false (ops + 1) (max (fu - 1) 0)) by have q := heap_setCell_at (i := 4) (u := .int .i64 (ops + 1)) (heap_setCell_at (i := 5) (u := .int .i64 (max (fu - 1) 0)) H1.out); exact q)
    have HX2 := Lib.hid (HK.out.blk HX.out (by simpa using hne))
    have HI2 := Lib.hid (HK.out.blk HI.out (by simpa using hni))
    have HZ2 := Lib.hid (HK.out.blk HZ.out (by simpa using hnz))
    have HO2 := Lib.hid (H2.out.kkD HK.out H1.out (by decide))
    have HO3 := Lib.hid (H3.out.kkD HK.out H1.out (by decide))
    have HBl := Lib.hid (Kd.of_same HK.out H1.out HB.out)
    clear c0 c1 c2 c3 c4 c5 f4 f5 w1 w2 d1
    generalize ((w.setCell ⟨D, 5, none⟩ (.int .i64 (max (fu - 1) 0))).setCell ⟨D, 4, none⟩ (.int .i64 (ops + 1))) = v at *
    have HF := Lib.hid (dwrite1 X I Z D SS CC false (ops + 1) (max (fu - 1) 0) i s v ⟨⟨sa, sn, sc, ca, cn, cc, HB.out, HO2.out, HO3.out⟩, H4.out⟩ HX2.out HI2.out HZ2.out HOK.out hl)
    refine HF.out.mono ?_
    rintro e w1 ⟨rfl, hd, hb⟩
    have HD := Lib.hid hd
    have HB2 := Lib.hid (HBl.out.trans hb)
    clear hd hb
    go_wp2_with fail
    go_ret
    exact ⟨dk_retI (by unfold stpE; rw [if_neg HQ.out]), by unfold wrtC stpD stpO stpF; rw [if_neg HQ.out, if_neg HQ.out, if_neg HQ.out, decide_eq_false HQ.out]; exact HD.out, HB2.out⟩
set_option maxRecDepth 100000 in
set_option maxHeartbeats 2000000 in
theorem dwrite_down (D : Nat) (SS : List ByteArray) (CC : List Wr) (ops fu : Int) (i : Int) (s : ByteArray) (w : World) (h : DK D SS CC true ops fu w) :
    Calls Tryd.prog 43 #[.pointer (some ⟨D, 0, none⟩), .int .i64 i, .string s] w fun e w' => e = .returned (.int .i64 7) ∧ DK D SS CC true ops fu w' ∧ Kd D w w' := by
  have HL := Lib.hid h.lt
  have HBn := Lib.hid ((((Below.refl w.heap.size w).alloc (Nat.le_refl _) (.cells #[.pointer (some ⟨D, 0, none⟩)] 24 (0, 0))).alloc (by simp) (.cells #[.int .i64 i] 3 (0, 0))).alloc (by simp; omega) (.cells #[.string s] 9 (0, 0)))
  have HD := Lib.hid (h.kept HBn.out)
  have HX := Lib.hid (blk_alloc (blk_alloc (blk_new w (.cells #[.pointer (some ⟨D, 0, none⟩)] 24 (0, 0))) (.cells #[.int .i64 i] 3 (0, 0))) (.cells #[.string s] 9 (0, 0)))
  have HI : Hid ((((w.alloc (.cells #[.pointer (some ⟨D, 0, none⟩)] 24 (0, 0))).alloc (.cells #[.int .i64 i] 3 (0, 0))).alloc (.cells #[.string s] 9 (0, 0))).heap[w.heap.size + 1]? = some (.cells #[.int .i64 i] 3 (0, 0))) := Lib.hid (blk_alloc (two_blk w (.cells #[.pointer (some ⟨D, 0, none⟩)] 24 (0, 0)) (.cells #[.int .i64 i] 3 (0, 0))) (.cells #[.string s] 9 (0, 0)))
  have HZ : Hid ((((w.alloc (.cells #[.pointer (some ⟨D, 0, none⟩)] 24 (0, 0))).alloc (.cells #[.int .i64 i] 3 (0, 0))).alloc (.cells #[.string s] 9 (0, 0))).heap[w.heap.size + 2]? = some (.cells #[.string s] 9 (0, 0))) := Lib.hid (three_blk w (.cells #[.pointer (some ⟨D, 0, none⟩)] 24 (0, 0)) (.cells #[.int .i64 i] 3 (0, 0)) (.cells #[.string s] 9 (0, 0)))
  obtain ⟨v, hv⟩ : ∃ v, v = (((w.alloc (.cells #[.pointer (some ⟨D, 0, none⟩)] 24 (0, 0))).alloc (.cells #[.int .i64 i] 3 (0, 0))).alloc (.cells #[.string s] 9 (0, 0))) := ⟨_, rfl⟩
  have HV := Lib.hid hv
  rw [← hv] at HBn HD HX HI HZ
  have HR := Lib.hid HD.out.readyIs
  clear h hv
  go_enter Tryd.func43, Tryd.ntmps43
  go_upto_region 1 with (fail)
  rw [← HV.out]
  have x0 : v.cell? ⟨w.heap.size, 0, none⟩ = some (.pointer (some ⟨D, 0, none⟩)) := (cell_of_row _ _ 0 _ _ _ HX.out).trans rfl
  go_wp2_with fail
  refine HR.out.mono ?_
  rintro e w' ⟨rfl, rfl⟩
  clear x0
  go_wp2_with fail
  go_ret
  exact ⟨rfl, HD.out, Kd.of_below HBn.out HL.out⟩
set_option maxRecDepth 100000 in
set_option maxHeartbeats 2000000 in
theorem dwrite_no (D : Nat) (SS : List ByteArray) (CC : List Wr) (ops fu : Int) (i : Int) (s : ByteArray) (w : World) (h : DK D SS CC false ops fu w) (hne : dckE SS.length i s ≠ 0) :
    Calls Tryd.prog 43 #[.pointer (some ⟨D, 0, none⟩), .int .i64 i, .string s] w fun e w' => e = .returned (.int .i64 (dckE SS.length i s)) ∧ DK D SS CC false ops fu w' ∧ Kd D w w' := by
  have HL := Lib.hid h.lt
  have HBn := Lib.hid ((((Below.refl w.heap.size w).alloc (Nat.le_refl _) (.cells #[.pointer (some ⟨D, 0, none⟩)] 24 (0, 0))).alloc (by simp) (.cells #[.int .i64 i] 3 (0, 0))).alloc (by simp; omega) (.cells #[.string s] 9 (0, 0)))
  have HD := Lib.hid (h.kept HBn.out)
  have HX := Lib.hid (blk_alloc (blk_alloc (blk_new w (.cells #[.pointer (some ⟨D, 0, none⟩)] 24 (0, 0))) (.cells #[.int .i64 i] 3 (0, 0))) (.cells #[.string s] 9 (0, 0)))
  have HI : Hid ((((w.alloc (.cells #[.pointer (some ⟨D, 0, none⟩)] 24 (0, 0))).alloc (.cells #[.int .i64 i] 3 (0, 0))).alloc (.cells #[.string s] 9 (0, 0))).heap[w.heap.size + 1]? = some (.cells #[.int .i64 i] 3 (0, 0))) := Lib.hid (blk_alloc (two_blk w (.cells #[.pointer (some ⟨D, 0, none⟩)] 24 (0, 0)) (.cells #[.int .i64 i] 3 (0, 0))) (.cells #[.string s] 9 (0, 0)))
  have HZ : Hid ((((w.alloc (.cells #[.pointer (some ⟨D, 0, none⟩)] 24 (0, 0))).alloc (.cells #[.int .i64 i] 3 (0, 0))).alloc (.cells #[.string s] 9 (0, 0))).heap[w.heap.size + 2]? = some (.cells #[.string s] 9 (0, 0))) := Lib.hid (three_blk w (.cells #[.pointer (some ⟨D, 0, none⟩)] 24 (0, 0)) (.cells #[.int .i64 i] 3 (0, 0)) (.cells #[.string s] 9 (0, 0)))
  obtain ⟨v, hv⟩ : ∃ v, v = (((w.alloc (.cells #[.pointer (some ⟨D, 0, none⟩)] 24 (0, 0))).alloc (.cells #[.int .i64 i] 3 (0, 0))).alloc (.cells #[.string s] 9 (0, 0))) := ⟨_, rfl⟩
  have HV := Lib.hid hv
  rw [← hv] at HBn HD HX HI HZ
  have HR := Lib.hid HD.out.readyIs
  obtain ⟨z, hz⟩ : ∃ z, z = dckE SS.length i s := ⟨_, rfl⟩
  rw [← hz] at hne
  have hzn : (z != 0) = true := by simpa using hne
  have HE := Lib.hid hz
  clear hne hz
  have HC := Lib.hid (fun (W : World) (q : DK D SS CC false ops fu W) => (by rw [HE.out]; exact q.checkIs i s : Calls Tryd.prog 74 #[.pointer (some ⟨D, 0, none⟩), .int .i64 i, .string s] W fun e w' => e = .returned (.int .i64 z) ∧ W = w'))
  clear h hv
  go_enter Tryd.func43, Tryd.ntmps43
  go_upto_region 1 with (fail)
  rw [← HV.out]
  have x0 : v.cell? ⟨w.heap.size, 0, none⟩ = some (.pointer (some ⟨D, 0, none⟩)) := (cell_of_row _ _ 0 _ _ _ HX.out).trans rfl
  go_wp2_with fail
  refine HR.out.mono ?_
  rintro e w' ⟨rfl, rfl⟩
  go_upto_region 4 with (fail)
  clear x0
  have HDI := Lib.hid (show DK D SS CC false ops fu v from HD.out)
  have y0 : v.cell? ⟨w.heap.size, 0, none⟩ = some (.pointer (some ⟨D, 0, none⟩)) := (cell_of_row _ _ 0 _ _ _ HX.out).trans rfl
  have y1 : v.cell? ⟨w.heap.size + 1, 0, none⟩ = some (.int .i64 i) := (cell_of_row _ _ 0 _ _ _ HI.out).trans rfl
  have y2 : v.cell? ⟨w.heap.size + 2, 0, none⟩ = some (.string s) := (cell_of_row _ _ 0 _ _ _ HZ.out).trans rfl
  have r0 := fun d os => cell_regrown y0 d os
  have r1 := fun d os => cell_regrown y1 d os
  have r2 := fun d os => cell_regrown y2 d os
  clear y0 y1 y2
  refine wp_region_quiet_below (by kernel_rfl) (by kernel_rfl) ?_
  repeat (any_goals (first | go_big_quiet_step (((go_at_call 74; with_reducible exact Calls.regrown_of (of_same (HC.out _ (HDI.out.kept (below_regrown _ _ _))))))) | quiet_step (((go_at_call 74; with_reducible exact Calls.regrown_of (of_same (HC.out _ (HDI.out.kept (below_regrown _ _ _)))))))))
  refine wpQuiet_nil ?_
  intro v1 hv1
  have hb1 := below_anyY hv1
  clear hv1 r0 r1 r2
  have HB1 := Lib.hid (HBn.out.trans (hb1.mono HBn.out.size))
  have HD1 := Lib.hid (HD.out.kept hb1)
  have HX1 := Lib.hid (blk_below HX.out hb1)
  have HI1 := Lib.hid (blk_below HI.out hb1)
  have HZ1 := Lib.hid (blk_below HZ.out hb1)
  clear hb1
  go_wp2_with fail
  go_ret
  exact ⟨dk_retI HE.out, HD1.out, Kd.of_below HB1.out HL.out⟩
set_option maxRecDepth 100000 in
set_option maxHeartbeats 2000000 in
theorem dwrite_up (D : Nat) (SS : List ByteArray) (CC : List Wr) (ops fu : Int) (i : Int) (s : ByteArray) (w : World) (h : DK D SS CC false ops fu w) (hz0 : dckE SS.length i s = 0) (ho : -1000000000 ≤ ops ∧ ops ≤ 1000000000) (hf : 0 ≤ fu ∧ fu ≤ 9223372036854775807) (hl : CC.length + 1 ≤ 1000000) :
    Calls Tryd.prog 43 #[.pointer (some ⟨D, 0, none⟩), .int .i64 i, .string s] w fun e w' => e = .returned (.int .i64 (stpE fu)) ∧ DK D SS (wrtC fu CC i s) (stpD fu) (stpO ops fu) (stpF fu) w' ∧ Kd D w w' := by
  have HL := Lib.hid h.lt
  have HBn := Lib.hid ((((Below.refl w.heap.size w).alloc (Nat.le_refl _) (.cells #[.pointer (some ⟨D, 0, none⟩)] 24 (0, 0))).alloc (by simp) (.cells #[.int .i64 i] 3 (0, 0))).alloc (by simp; omega) (.cells #[.string s] 9 (0, 0)))
  have HD := Lib.hid (h.kept HBn.out)
  have HX := Lib.hid (blk_alloc (blk_alloc (blk_new w (.cells #[.pointer (some ⟨D, 0, none⟩)] 24 (0, 0))) (.cells #[.int .i64 i] 3 (0, 0))) (.cells #[.string s] 9 (0, 0)))
  have HI : Hid ((((w.alloc (.cells #[.pointer (some ⟨D, 0, none⟩)] 24 (0, 0))).alloc (.cells #[.int .i64 i] 3 (0, 0))).alloc (.cells #[.string s] 9 (0, 0))).heap[w.heap.size + 1]? = some (.cells #[.int .i64 i] 3 (0, 0))) := Lib.hid (blk_alloc (two_blk w (.cells #[.pointer (some ⟨D, 0, none⟩)] 24 (0, 0)) (.cells #[.int .i64 i] 3 (0, 0))) (.cells #[.string s] 9 (0, 0)))
  have HZ : Hid ((((w.alloc (.cells #[.pointer (some ⟨D, 0, none⟩)] 24 (0, 0))).alloc (.cells #[.int .i64 i] 3 (0, 0))).alloc (.cells #[.string s] 9 (0, 0))).heap[w.heap.size + 2]? = some (.cells #[.string s] 9 (0, 0))) := Lib.hid (three_blk w (.cells #[.pointer (some ⟨D, 0, none⟩)] 24 (0, 0)) (.cells #[.int .i64 i] 3 (0, 0)) (.cells #[.string s] 9 (0, 0)))
  obtain ⟨v, hv⟩ : ∃ v, v = (((w.alloc (.cells #[.pointer (some ⟨D, 0, none⟩)] 24 (0, 0))).alloc (.cells #[.int .i64 i] 3 (0, 0))).alloc (.cells #[.string s] 9 (0, 0))) := ⟨_, rfl⟩
  have HV := Lib.hid hv
  rw [← hv] at HBn HD HX HI HZ
  have HR := Lib.hid HD.out.readyIs
  have HE := Lib.hid hz0
  clear hz0
  have HC := Lib.hid (fun (W : World) (q : DK D SS CC false ops fu W) => (by have t := q.checkIs i s; rw [HE.out] at t; exact t : Calls Tryd.prog 74 #[.pointer (some ⟨D, 0, none⟩), .int .i64 i, .string s] W fun e w' => e = .returned (.int .i64 0) ∧ W = w'))
  clear h hv
  go_enter Tryd.func43, Tryd.ntmps43
  go_upto_region 1 with (fail)
  rw [← HV.out]
  have x0 : v.cell? ⟨w.heap.size, 0, none⟩ = some (.pointer (some ⟨D, 0, none⟩)) := (cell_of_row _ _ 0 _ _ _ HX.out).trans rfl
  go_wp2_with fail
  refine HR.out.mono ?_
  rintro e w' ⟨rfl, rfl⟩
  go_upto_region 4 with (fail)
  clear x0
  have HDI := Lib.hid (show DK D SS CC false ops fu v from HD.out)
  have y0 : v.cell? ⟨w.heap.size, 0, none⟩ = some (.pointer (some ⟨D, 0, none⟩)) := (cell_of_row _ _ 0 _ _ _ HX.out).trans rfl
  have y1 : v.cell? ⟨w.heap.size + 1, 0, none⟩ = some (.int .i64 i) := (cell_of_row _ _ 0 _ _ _ HI.out).trans rfl
  have y2 : v.cell? ⟨w.heap.size + 2, 0, none⟩ = some (.string s) := (cell_of_row _ _ 0 _ _ _ HZ.out).trans rfl
  have r0 := fun d os => cell_regrown y0 d os
  have r1 := fun d os => cell_regrown y1 d os
  have r2 := fun d os => cell_regrown y2 d os
  clear y0 y1 y2
  refine wp_region_quiet_below (by kernel_rfl) (by kernel_rfl) ?_
  repeat (any_goals (first | go_big_quiet_step (((go_at_call 74; with_reducible exact Calls.regrown_of (of_same (HC.out _ (HDI.out.kept (below_regrown _ _ _))))))) | quiet_step (((go_at_call 74; with_reducible exact Calls.regrown_of (of_same (HC.out _ (HDI.out.kept (below_regrown _ _ _)))))))))
  refine wpQuiet_nil ?_
  intro v1 hv1
  have hb1 := below_anyY hv1
  clear hv1 r0 r1 r2
  have HB1 := Lib.hid (HBn.out.trans (hb1.mono HBn.out.size))
  have HD1 := Lib.hid (HD.out.kept hb1)
  have HX1 := Lib.hid (blk_below HX.out hb1)
  have HI1 := Lib.hid (blk_below HI.out hb1)
  have HZ1 := Lib.hid (blk_below HZ.out hb1)
  clear hb1
  have HOK : Hid (0 ≤ i ∧ i < (SS.length : Int) ∧ s.size = 128) := Lib.hid (dck_ok HE.out)
  have HS := Lib.hid (dstep_write w.heap.size (w.heap.size + 1) (w.heap.size + 2) D SS CC ops fu i s v1 HD1.out HX1.out HI1.out HZ1.out HOK.out hl ho hf)
  have x0 : v1.cell? ⟨w.heap.size, 0, none⟩ = some (.pointer (some ⟨D, 0, none⟩)) := (cell_of_row _ _ 0 _ _ _ HX1.out).trans rfl
  go_wp2_with fail
  clear x0
  refine HS.out.mono ?_
  rintro e w1 ⟨rfl, hd, hb⟩
  have HD2 := Lib.hid hd
  have HB2 := Lib.hid ((Kd.of_below HB1.out HL.out).trans hb)
  clear hd hb
  go_wp2_with fail
  go_ret
  exact ⟨rfl, HD2.out, HB2.out⟩
end Go.Proofs.YtagenkofoacajaaDoor
