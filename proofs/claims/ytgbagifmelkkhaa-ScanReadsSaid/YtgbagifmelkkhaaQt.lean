/- The contract of the statement's reads, kind by kind. -/
import Derived.Test.YtgbagifmelkkhaaQr
namespace Go.Proofs.Ytgbagifmelkkhaa
open Go.RowKit Vi

set_option maxHeartbeats 3200000 in
set_option maxRecDepth 100000 in
theorem reads4 (B : Nat) (S : ByteArray) (q : Nat) (er n : Int) (w : World) (hS : S.size ≤ 1000000) (hq : q ≤ S.size) (hs : Sc w B true S q er) :
    Calls Try.prog 56 #[.pointer (some ⟨B, 0, none⟩), .agg #[.string S, .int .i64 (q : Int), .int .i64 er], .agg #[.int .i64 4, .int .i64 n]] w (ReadsIs B S w) := by
  have HB := Lib.hid (Bx.start B S q er 4 n w hs)
  obtain ⟨y, q1, e1, hF⟩ : ∃ y q' e', Rd.int S q er = (y, q', e') := ⟨_, _, _, rfl⟩
  have hq1 : q1 ≤ S.size := by have := Rd.int_le S q er hq; rw [hF] at this; exact this
  have HF := Lib.hid hF
  clear hF
  go_enter Try.func56, Try.ntmps56
  go_wp2_with fail
  refine (rInt_any S q er _ hS hq).mono ?_
  rintro e w1 ⟨rfl, hb1⟩
  rw [HF.out]
  have HB1 := Lib.hid (HB.out.below hb1)
  clear hb1
  have hsz1 := HB1.out.hsz
  have HB2 := Lib.hid (HB1.out.alloc (.cells #[.string S, .int .i64 (q1 : Int), .int .i64 e1] 60))
  have r9 := Below.refl (w1.alloc (.cells #[.string S, .int .i64 (q1 : Int), .int .i64 e1] 60)).heap.size (w1.alloc (.cells #[.string S, .int .i64 (q1 : Int), .int .i64 e1] 60))
  have t0 := box_at r9 rfl 0 rfl
  have t1 := box_at r9 rfl 1 rfl
  have t2 := box_at r9 rfl 2 rfl
  have hs9 : w1.heap.size < (w1.alloc (.cells #[.string S, .int .i64 (q1 : Int), .int .i64 e1] 60)).heap.size := by simp
  have HT := Lib.hid (And.intro t0 (And.intro t1 (And.intro t2 hs9)))
  clear t0 t1 t2 r9 hs9
  unfold sv
  go_wp2_with fail
  generalize (w1.alloc (.cells #[.string S, .int .i64 (q1 : Int), .int .i64 e1] 60)) = v1 at *
  obtain ⟨t0, t1, t2, hs9⟩ := HT.out
  have hne : ¬ w.heap.size = w1.heap.size := by omega
  have hBn : B < w.heap.size := HB2.out.hB
  have a1 := HB2.out.a1
  have f0 := HB2.out.f0
  have f1 := HB2.out.f1
  have f2 := HB2.out.f2
  have c0 := HB2.out.c0
  have c1 := HB2.out.c1
  have c2 := HB2.out.c2
  have hqq : (y == y) = true := by simp
  simp only [List.getElem_toArray, List.getElem_cons_zero, List.getElem_cons_succ] at t0 t1 t2
  go_region_held3 (fun w' => w'.cell? ⟨w1.heap.size, 0, none⟩ = some (.string S) ∧ w'.cell? ⟨w1.heap.size, 1, none⟩ = some (.int .i64 (q1 : Int)) ∧ w'.cell? ⟨w1.heap.size, 2, none⟩ = some (.int .i64 e1) ∧ w'.cell? ⟨w.heap.size + 1, 1, none⟩ = some (.int .i64 n)) (go_keep)
    (first | (go_at_call 90; refine (intU _ B S q er hS hq ?_).mono ?_; (exact HB2.out.sc); rintro e v2 ⟨rfl, hs2, hb2⟩; rw [HF.out] at hs2; rw [HF.out]; have k0 := (hb2.cellOf (b := w1.heap.size) (i := 0) hs9 (by omega)).trans t0; have k1 := (hb2.cellOf (b := w1.heap.size) (i := 1) hs9 (by omega)).trans t1; have k2 := (hb2.cellOf (b := w1.heap.size) (i := 2) hs9 (by omega)).trans t2; have X := HB2.out.laterD hb2 hs2; have k3 := X.a1; have k4 := X.c0; have k5 := X.c1; have k6 := X.c2; have k7 := X.f0; have k8 := X.f1; have k9 := X.f2; have HX := Lib.hid X; clear X hs2 hb2))
  go_wp2_with fail
  have HX2 := Lib.hid (HX.out.set q1 e1)
  clear HX k0 k1 k2 k3 k4 k5 k6 k7 k8 k9 HT HB2 t0 t1 t2 hs9 a1 f0 f1 f2 c0 c1 c2 hqq hne HB1 HB hsz1
  generalize (((v2.setCell ⟨w.heap.size, 0, none⟩ (.string S)).setCell ⟨w.heap.size, 1, none⟩ (.int .i64 (q1 : Int))).setCell ⟨w.heap.size, 2, none⟩ (.int .i64 e1)) = v3 at *
  have c0 := HX2.out.c0
  have c1 := HX2.out.c1
  have c2 := HX2.out.c2
  have d0 : v3.cell? ⟨w.heap.size + 1 + 1, 0, none⟩ = _ := HX2.out.d0
  have d1 : v3.cell? ⟨w.heap.size + 1 + 1, 1, none⟩ = _ := HX2.out.d1
  have d2 : v3.cell? ⟨w.heap.size + 1 + 1, 2, none⟩ = _ := HX2.out.d2
  have g0 : v3.frozen? ⟨w.heap.size + 1 + 1, 0, none⟩ = _ := HX2.out.g0
  have g1 : v3.frozen? ⟨w.heap.size + 1 + 1, 1, none⟩ = _ := HX2.out.g1
  have g2 : v3.frozen? ⟨w.heap.size + 1 + 1, 2, none⟩ = _ := HX2.out.g2
  obtain ⟨r0, r1, r2⟩ := read3 d0 d1 d2 (.string S) (.int .i64 (q1 : Int)) (.int .i64 e1)
  have qe : (e1 == e1) = true := by simp
  have qq : ((q1 : Int) == (q1 : Int)) = true := by simp
  have hnn : ¬ w.heap.size + 1 + 1 = w.heap.size := by omega
  go_region_held3 (fun w' => w'.cell? ⟨w.heap.size, 0, none⟩ = some (.string S) ∧ w'.cell? ⟨w.heap.size, 1, none⟩ = some (.int .i64 (q1 : Int)) ∧ w'.cell? ⟨w.heap.size, 2, none⟩ = some (.int .i64 e1)) (first | go_keep | exact ⟨far_cell (far_cell (far_cell c0 hnn) hnn) hnn, far_cell (far_cell (far_cell c1 hnn) hnn) hnn, far_cell (far_cell (far_cell c2 hnn) hnn) hnn⟩)
    (first | (go_at_call 82; refine (err_any _ B true S q1 e1 ?_).mono ?_; (exact HX2.out.sc); rintro e w' ⟨rfl, rfl⟩; rw [if_pos rfl]) | (go_at_call 83; refine (at_any _ B true S q1 e1 ?_).mono ?_; (exact HX2.out.sc); rintro e w' ⟨rfl, rfl⟩))
  go_wp2_with fail
  refine bodyPost_ret (v := .tuple #[sv S q1 e1, .bool true]) (by simp [sv, results, Try.results56, go_sem, r0, r1, r2]) rfl ⟨q1, e1, hq1, rfl, ?_, ?_⟩
  · exact Sc.drew (HX2.out.fin _ _ _).1
  · exact But.drew (HX2.out.fin _ _ _).2

set_option maxHeartbeats 3200000 in
set_option maxRecDepth 100000 in
theorem reads5 (B : Nat) (S : ByteArray) (q : Nat) (er n : Int) (w : World) (hS : S.size ≤ 1000000) (hq : q ≤ S.size) (hs : Sc w B true S q er) (hn0 : -9223372036854775808 ≤ n) (hn1 : n ≤ 9223372036854775807) :
    Calls Try.prog 56 #[.pointer (some ⟨B, 0, none⟩), .agg #[.string S, .int .i64 (q : Int), .int .i64 er], .agg #[.int .i64 5, .int .i64 n]] w (ReadsIs B S w) := by
  have HB := Lib.hid (Bx.start B S q er 5 n w hs)
  obtain ⟨y, q1, e1, hF⟩ : ∃ y q' e', Rd.text S q er n = (y, q', e') := ⟨_, _, _, rfl⟩
  have hq1 : q1 ≤ S.size := by have := Rd.text_le S q er n hq; rw [hF] at this; exact this
  have HF := Lib.hid hF
  clear hF
  go_enter Try.func56, Try.ntmps56
  go_wp2_with fail
  refine (rText_any S q er n _ hS hq hn0 hn1).mono ?_
  rintro e w1 ⟨rfl, hb1⟩
  rw [HF.out]
  have HB1 := Lib.hid (HB.out.below hb1)
  clear hb1
  have hsz1 := HB1.out.hsz
  have HB2 := Lib.hid (HB1.out.alloc (.cells #[.string S, .int .i64 (q1 : Int), .int .i64 e1] 60))
  have r9 := Below.refl (w1.alloc (.cells #[.string S, .int .i64 (q1 : Int), .int .i64 e1] 60)).heap.size (w1.alloc (.cells #[.string S, .int .i64 (q1 : Int), .int .i64 e1] 60))
  have t0 := box_at r9 rfl 0 rfl
  have t1 := box_at r9 rfl 1 rfl
  have t2 := box_at r9 rfl 2 rfl
  have hs9 : w1.heap.size < (w1.alloc (.cells #[.string S, .int .i64 (q1 : Int), .int .i64 e1] 60)).heap.size := by simp
  have HT := Lib.hid (And.intro t0 (And.intro t1 (And.intro t2 hs9)))
  clear t0 t1 t2 r9 hs9
  unfold sv
  go_wp2_with fail
  generalize (w1.alloc (.cells #[.string S, .int .i64 (q1 : Int), .int .i64 e1] 60)) = v1 at *
  obtain ⟨t0, t1, t2, hs9⟩ := HT.out
  have hne : ¬ w.heap.size = w1.heap.size := by omega
  have hBn : B < w.heap.size := HB2.out.hB
  have a1 := HB2.out.a1
  have f0 := HB2.out.f0
  have f1 := HB2.out.f1
  have f2 := HB2.out.f2
  have c0 := HB2.out.c0
  have c1 := HB2.out.c1
  have c2 := HB2.out.c2
  have hqq : (y.toList == y.toList) = true := by simp
  simp only [List.getElem_toArray, List.getElem_cons_zero, List.getElem_cons_succ] at t0 t1 t2
  go_region_held3 (fun w' => w'.cell? ⟨w1.heap.size, 0, none⟩ = some (.string S) ∧ w'.cell? ⟨w1.heap.size, 1, none⟩ = some (.int .i64 (q1 : Int)) ∧ w'.cell? ⟨w1.heap.size, 2, none⟩ = some (.int .i64 e1) ∧ w'.cell? ⟨w.heap.size + 1, 1, none⟩ = some (.int .i64 n)) (go_keep)
    (first | (go_at_call 80; refine (textU _ B S q er n hS hq ?_ hn1).mono ?_; (exact HB2.out.sc); rintro e v2 ⟨rfl, hs2, hb2⟩; rw [HF.out] at hs2; rw [HF.out]; have k0 := (hb2.cellOf (b := w1.heap.size) (i := 0) hs9 (by omega)).trans t0; have k1 := (hb2.cellOf (b := w1.heap.size) (i := 1) hs9 (by omega)).trans t1; have k2 := (hb2.cellOf (b := w1.heap.size) (i := 2) hs9 (by omega)).trans t2; have X := HB2.out.laterD hb2 hs2; have k3 := X.a1; have k4 := X.c0; have k5 := X.c1; have k6 := X.c2; have k7 := X.f0; have k8 := X.f1; have k9 := X.f2; have HX := Lib.hid X; clear X hs2 hb2))
  go_wp2_with fail
  have HX2 := Lib.hid (HX.out.set q1 e1)
  clear HX k0 k1 k2 k3 k4 k5 k6 k7 k8 k9 HT HB2 t0 t1 t2 hs9 a1 f0 f1 f2 c0 c1 c2 hqq hne HB1 HB hsz1
  generalize (((v2.setCell ⟨w.heap.size, 0, none⟩ (.string S)).setCell ⟨w.heap.size, 1, none⟩ (.int .i64 (q1 : Int))).setCell ⟨w.heap.size, 2, none⟩ (.int .i64 e1)) = v3 at *
  have c0 := HX2.out.c0
  have c1 := HX2.out.c1
  have c2 := HX2.out.c2
  have d0 : v3.cell? ⟨w.heap.size + 1 + 1, 0, none⟩ = _ := HX2.out.d0
  have d1 : v3.cell? ⟨w.heap.size + 1 + 1, 1, none⟩ = _ := HX2.out.d1
  have d2 : v3.cell? ⟨w.heap.size + 1 + 1, 2, none⟩ = _ := HX2.out.d2
  have g0 : v3.frozen? ⟨w.heap.size + 1 + 1, 0, none⟩ = _ := HX2.out.g0
  have g1 : v3.frozen? ⟨w.heap.size + 1 + 1, 1, none⟩ = _ := HX2.out.g1
  have g2 : v3.frozen? ⟨w.heap.size + 1 + 1, 2, none⟩ = _ := HX2.out.g2
  obtain ⟨r0, r1, r2⟩ := read3 d0 d1 d2 (.string S) (.int .i64 (q1 : Int)) (.int .i64 e1)
  have qe : (e1 == e1) = true := by simp
  have qq : ((q1 : Int) == (q1 : Int)) = true := by simp
  have hnn : ¬ w.heap.size + 1 + 1 = w.heap.size := by omega
  go_region_held3 (fun w' => w'.cell? ⟨w.heap.size, 0, none⟩ = some (.string S) ∧ w'.cell? ⟨w.heap.size, 1, none⟩ = some (.int .i64 (q1 : Int)) ∧ w'.cell? ⟨w.heap.size, 2, none⟩ = some (.int .i64 e1)) (first | go_keep | exact ⟨far_cell (far_cell (far_cell c0 hnn) hnn) hnn, far_cell (far_cell (far_cell c1 hnn) hnn) hnn, far_cell (far_cell (far_cell c2 hnn) hnn) hnn⟩)
    (first | (go_at_call 82; refine (err_any _ B true S q1 e1 ?_).mono ?_; (exact HX2.out.sc); rintro e w' ⟨rfl, rfl⟩; rw [if_pos rfl]) | (go_at_call 83; refine (at_any _ B true S q1 e1 ?_).mono ?_; (exact HX2.out.sc); rintro e w' ⟨rfl, rfl⟩))
  go_wp2_with fail
  refine bodyPost_ret (v := .tuple #[sv S q1 e1, .bool true]) (by simp [sv, results, Try.results56, go_sem, r0, r1, r2]) rfl ⟨q1, e1, hq1, rfl, ?_, ?_⟩
  · exact Sc.drew (HX2.out.fin _ _ _).1
  · exact But.drew (HX2.out.fin _ _ _).2

set_option maxHeartbeats 3200000 in
set_option maxRecDepth 100000 in
theorem reads6 (B : Nat) (S : ByteArray) (q : Nat) (er n : Int) (w : World) (hS : S.size ≤ 1000000) (hq : q ≤ S.size) (hs : Sc w B true S q er) :
    Calls Try.prog 56 #[.pointer (some ⟨B, 0, none⟩), .agg #[.string S, .int .i64 (q : Int), .int .i64 er], .agg #[.int .i64 6, .int .i64 n]] w (ReadsIs B S w) := by
  have HB := Lib.hid (Bx.start B S q er 6 n w hs)
  obtain ⟨y, q1, e1, hF⟩ : ∃ y q' e', Rd.rest S q er = (y, q', e') := ⟨_, _, _, rfl⟩
  have hq1 : q1 ≤ S.size := by have := Rd.rest_le S q er hq; rw [hF] at this; exact this
  have HF := Lib.hid hF
  clear hF
  go_enter Try.func56, Try.ntmps56
  go_wp2_with fail
  refine (rRest_any S q er _ hS hq).mono ?_
  rintro e w1 ⟨rfl, hb1⟩
  rw [HF.out]
  have HB1 := Lib.hid (HB.out.below hb1)
  clear hb1
  have hsz1 := HB1.out.hsz
  have HB2 := Lib.hid (HB1.out.alloc (.cells #[.string S, .int .i64 (q1 : Int), .int .i64 e1] 60))
  have r9 := Below.refl (w1.alloc (.cells #[.string S, .int .i64 (q1 : Int), .int .i64 e1] 60)).heap.size (w1.alloc (.cells #[.string S, .int .i64 (q1 : Int), .int .i64 e1] 60))
  have t0 := box_at r9 rfl 0 rfl
  have t1 := box_at r9 rfl 1 rfl
  have t2 := box_at r9 rfl 2 rfl
  have hs9 : w1.heap.size < (w1.alloc (.cells #[.string S, .int .i64 (q1 : Int), .int .i64 e1] 60)).heap.size := by simp
  have HT := Lib.hid (And.intro t0 (And.intro t1 (And.intro t2 hs9)))
  clear t0 t1 t2 r9 hs9
  unfold sv
  go_wp2_with fail
  generalize (w1.alloc (.cells #[.string S, .int .i64 (q1 : Int), .int .i64 e1] 60)) = v1 at *
  obtain ⟨t0, t1, t2, hs9⟩ := HT.out
  have hne : ¬ w.heap.size = w1.heap.size := by omega
  have hBn : B < w.heap.size := HB2.out.hB
  have a1 := HB2.out.a1
  have f0 := HB2.out.f0
  have f1 := HB2.out.f1
  have f2 := HB2.out.f2
  have c0 := HB2.out.c0
  have c1 := HB2.out.c1
  have c2 := HB2.out.c2
  have hqq : (y.toList == y.toList) = true := by simp
  simp only [List.getElem_toArray, List.getElem_cons_zero, List.getElem_cons_succ] at t0 t1 t2
  go_region_held3 (fun w' => w'.cell? ⟨w1.heap.size, 0, none⟩ = some (.string S) ∧ w'.cell? ⟨w1.heap.size, 1, none⟩ = some (.int .i64 (q1 : Int)) ∧ w'.cell? ⟨w1.heap.size, 2, none⟩ = some (.int .i64 e1) ∧ w'.cell? ⟨w.heap.size + 1, 1, none⟩ = some (.int .i64 n)) (go_keep)
    (first | (go_at_call 93; refine (restU _ B S q er hS hq ?_).mono ?_; (exact HB2.out.sc); rintro e v2 ⟨rfl, hs2, hb2⟩; rw [HF.out] at hs2; rw [HF.out]; have k0 := (hb2.cellOf (b := w1.heap.size) (i := 0) hs9 (by omega)).trans t0; have k1 := (hb2.cellOf (b := w1.heap.size) (i := 1) hs9 (by omega)).trans t1; have k2 := (hb2.cellOf (b := w1.heap.size) (i := 2) hs9 (by omega)).trans t2; have X := HB2.out.laterD hb2 hs2; have k3 := X.a1; have k4 := X.c0; have k5 := X.c1; have k6 := X.c2; have k7 := X.f0; have k8 := X.f1; have k9 := X.f2; have HX := Lib.hid X; clear X hs2 hb2))
  go_wp2_with fail
  have HX2 := Lib.hid (HX.out.set q1 e1)
  clear HX k0 k1 k2 k3 k4 k5 k6 k7 k8 k9 HT HB2 t0 t1 t2 hs9 a1 f0 f1 f2 c0 c1 c2 hqq hne HB1 HB hsz1
  generalize (((v2.setCell ⟨w.heap.size, 0, none⟩ (.string S)).setCell ⟨w.heap.size, 1, none⟩ (.int .i64 (q1 : Int))).setCell ⟨w.heap.size, 2, none⟩ (.int .i64 e1)) = v3 at *
  have c0 := HX2.out.c0
  have c1 := HX2.out.c1
  have c2 := HX2.out.c2
  have d0 : v3.cell? ⟨w.heap.size + 1 + 1, 0, none⟩ = _ := HX2.out.d0
  have d1 : v3.cell? ⟨w.heap.size + 1 + 1, 1, none⟩ = _ := HX2.out.d1
  have d2 : v3.cell? ⟨w.heap.size + 1 + 1, 2, none⟩ = _ := HX2.out.d2
  have g0 : v3.frozen? ⟨w.heap.size + 1 + 1, 0, none⟩ = _ := HX2.out.g0
  have g1 : v3.frozen? ⟨w.heap.size + 1 + 1, 1, none⟩ = _ := HX2.out.g1
  have g2 : v3.frozen? ⟨w.heap.size + 1 + 1, 2, none⟩ = _ := HX2.out.g2
  obtain ⟨r0, r1, r2⟩ := read3 d0 d1 d2 (.string S) (.int .i64 (q1 : Int)) (.int .i64 e1)
  have qe : (e1 == e1) = true := by simp
  have qq : ((q1 : Int) == (q1 : Int)) = true := by simp
  have hnn : ¬ w.heap.size + 1 + 1 = w.heap.size := by omega
  go_region_held3 (fun w' => w'.cell? ⟨w.heap.size, 0, none⟩ = some (.string S) ∧ w'.cell? ⟨w.heap.size, 1, none⟩ = some (.int .i64 (q1 : Int)) ∧ w'.cell? ⟨w.heap.size, 2, none⟩ = some (.int .i64 e1)) (first | go_keep | exact ⟨far_cell (far_cell (far_cell c0 hnn) hnn) hnn, far_cell (far_cell (far_cell c1 hnn) hnn) hnn, far_cell (far_cell (far_cell c2 hnn) hnn) hnn⟩)
    (first | (go_at_call 82; refine (err_any _ B true S q1 e1 ?_).mono ?_; (exact HX2.out.sc); rintro e w' ⟨rfl, rfl⟩; rw [if_pos rfl]) | (go_at_call 83; refine (at_any _ B true S q1 e1 ?_).mono ?_; (exact HX2.out.sc); rintro e w' ⟨rfl, rfl⟩))
  go_wp2_with fail
  refine bodyPost_ret (v := .tuple #[sv S q1 e1, .bool true]) (by simp [sv, results, Try.results56, go_sem, r0, r1, r2]) rfl ⟨q1, e1, hq1, rfl, ?_, ?_⟩
  · exact Sc.drew (HX2.out.fin _ _ _).1
  · exact But.drew (HX2.out.fin _ _ _).2

end Go.Proofs.Ytgbagifmelkkhaa
