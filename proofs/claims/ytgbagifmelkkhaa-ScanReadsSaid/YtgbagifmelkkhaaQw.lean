/- The contract of the statement's reads, kind by kind. -/
import Derived.Test.YtgbagifmelkkhaaQr
namespace Go.Proofs.Ytgbagifmelkkhaa
open Go.RowKit Vi

set_option maxHeartbeats 3200000 in
set_option maxRecDepth 100000 in
theorem reads7 (B : Nat) (S : ByteArray) (q : Nat) (er n : Int) (w : World) (hS : S.size ≤ 1000000) (hq : q ≤ S.size) (hs : Sc w B true S q er) :
    Calls Try.prog 56 #[.pointer (some ⟨B, 0, none⟩), .agg #[.string S, .int .i64 (q : Int), .int .i64 er], .agg #[.int .i64 7, .int .i64 n]] w (ReadsIs B S w) := by
  have HB := Lib.hid (Bx.start B S q er 7 n w hs)
  obtain ⟨e1, hF⟩ : ∃ e', Rd.fail er n = e' := ⟨_, rfl⟩
  have HF := Lib.hid hF
  clear hF
  go_enter Try.func56, Try.ntmps56
  go_wp2_with fail
  refine (rFail_any S q er n _).mono ?_
  rintro e w1 ⟨rfl, hb1⟩
  rw [HF.out]
  have HB1 := Lib.hid (HB.out.below hb1)
  clear hb1
  have c0 := HB1.out.c0
  have c1 := HB1.out.c1
  have c2 := HB1.out.c2
  have f0 := HB1.out.f0
  have f1 := HB1.out.f1
  have f2 := HB1.out.f2
  have a1 := HB1.out.a1
  have s2 := set_same (b := w.heap.size) (i := 2) (x := .int .i64 e1) c2
  have a1' := far_cell (b := w.heap.size) (i := 2) (x := .int .i64 e1) (far_cell (b := w.heap.size) (i := 1) (x := .int .i64 (q : Int)) (far_cell (b := w.heap.size) (i := 0) (x := .string S) a1 (by omega)) (by omega)) (by omega)
  unfold sv
  go_wp2_with fail
  refine (failU _ B S q er n hS hq ?_).mono ?_
  exact (HB1.out.set q e1).sc
  rintro e v3 ⟨rfl, hs2, hb2⟩
  rw [HF.out] at hs2
  have HX2 := Lib.hid ((HB1.out.set q e1).later hb2 hs2)
  clear hs2 hb2 HB1 c0 c1 c2 f0 f1 f2 a1 a1' s2 HB
  go_wp2_with fail
  have c0 := HX2.out.c0
  have c1 := HX2.out.c1
  have c2 := HX2.out.c2
  have d0 : v3.cell? ⟨w.heap.size + 1 + 1, 0, none⟩ = _ := HX2.out.d0
  have d1 : v3.cell? ⟨w.heap.size + 1 + 1, 1, none⟩ = _ := HX2.out.d1
  have d2 : v3.cell? ⟨w.heap.size + 1 + 1, 2, none⟩ = _ := HX2.out.d2
  have g0 : v3.frozen? ⟨w.heap.size + 1 + 1, 0, none⟩ = _ := HX2.out.g0
  have g1 : v3.frozen? ⟨w.heap.size + 1 + 1, 1, none⟩ = _ := HX2.out.g1
  have g2 : v3.frozen? ⟨w.heap.size + 1 + 1, 2, none⟩ = _ := HX2.out.g2
  obtain ⟨r0, r1, r2⟩ := read3 d0 d1 d2 (.string S) (.int .i64 (q : Int)) (.int .i64 e1)
  have qe : (e1 == e1) = true := by simp
  have qq : ((q : Int) == (q : Int)) = true := by simp
  have hnn : ¬ w.heap.size + 1 + 1 = w.heap.size := by omega
  go_region_held3 (fun w' => w'.cell? ⟨w.heap.size, 0, none⟩ = some (.string S) ∧ w'.cell? ⟨w.heap.size, 1, none⟩ = some (.int .i64 (q : Int)) ∧ w'.cell? ⟨w.heap.size, 2, none⟩ = some (.int .i64 e1)) (first | go_keep | exact ⟨far_cell (far_cell (far_cell c0 hnn) hnn) hnn, far_cell (far_cell (far_cell c1 hnn) hnn) hnn, far_cell (far_cell (far_cell c2 hnn) hnn) hnn⟩)
    (first | (go_at_call 82; refine (err_any _ B true S q e1 ?_).mono ?_; (exact HX2.out.sc); rintro e w' ⟨rfl, rfl⟩; rw [if_pos rfl]) | (go_at_call 83; refine (at_any _ B true S q e1 ?_).mono ?_; (exact HX2.out.sc); rintro e w' ⟨rfl, rfl⟩))
  go_wp2_with fail
  refine bodyPost_ret (v := .tuple #[sv S q e1, .bool true]) (by simp [sv, results, Try.results56, go_sem, r0, r1, r2]) rfl ⟨q, e1, hq, rfl, ?_, ?_⟩
  · exact Sc.drew (HX2.out.fin _ _ _).1
  · exact But.drew (HX2.out.fin _ _ _).2

set_option maxHeartbeats 3200000 in
set_option maxRecDepth 100000 in
theorem reads8 (B : Nat) (S : ByteArray) (q : Nat) (er n : Int) (w : World) (hS : S.size ≤ 1000000) (hq : q ≤ S.size) (hs : Sc w B true S q er) :
    Calls Try.prog 56 #[.pointer (some ⟨B, 0, none⟩), .agg #[.string S, .int .i64 (q : Int), .int .i64 er], .agg #[.int .i64 8, .int .i64 n]] w (ReadsIs B S w) := by
  have HB := Lib.hid (Bx.start B S q er 8 n w hs)
  obtain ⟨e1, hF⟩ : ∃ e', Rd.fin S q er = e' := ⟨_, rfl⟩
  have HF := Lib.hid hF
  clear hF
  go_enter Try.func56, Try.ntmps56
  go_wp2_with fail
  refine (rEnd_any S q er _).mono ?_
  rintro e w1 ⟨rfl, hb1⟩
  rw [HF.out]
  have HB1 := Lib.hid (HB.out.below hb1)
  clear hb1
  have c0 := HB1.out.c0
  have c1 := HB1.out.c1
  have c2 := HB1.out.c2
  have f0 := HB1.out.f0
  have f1 := HB1.out.f1
  have f2 := HB1.out.f2
  have a1 := HB1.out.a1
  unfold sv
  go_wp2_with fail
  have HB2 := Lib.hid (HB1.out.set q e1)
  clear c0 c1 c2 f0 f1 f2 a1 HB1 HB
  generalize (((w1.setCell ⟨w.heap.size, 0, none⟩ (.string S)).setCell ⟨w.heap.size, 1, none⟩ (.int .i64 (q : Int))).setCell ⟨w.heap.size, 2, none⟩ (.int .i64 e1)) = v1 at *
  have c2 := HB2.out.c2
  have qe0 : (e1 == e1) = true := by simp
  go_region_held3 (fun w' => w'.cell? ⟨w.heap.size, 2, none⟩ = some (.int .i64 e1)) (go_keep)
    (first | (go_at_call 97; refine (finU _ B S q er hS hq ?_).mono ?_; (exact HB2.out.sc); rintro e v3 ⟨rfl, hs2, hb2⟩; rw [HF.out] at hs2; rw [HF.out]; have X := HB2.out.laterD hb2 hs2; have k3 := X.c2; have HX2 := Lib.hid X; clear X hs2 hb2))
  go_wp2_with fail
  clear k3 c2 qe0 HB2
  have c0 := HX2.out.c0
  have c1 := HX2.out.c1
  have c2 := HX2.out.c2
  have d0 : v3.cell? ⟨w.heap.size + 1 + 1, 0, none⟩ = _ := HX2.out.d0
  have d1 : v3.cell? ⟨w.heap.size + 1 + 1, 1, none⟩ = _ := HX2.out.d1
  have d2 : v3.cell? ⟨w.heap.size + 1 + 1, 2, none⟩ = _ := HX2.out.d2
  have g0 : v3.frozen? ⟨w.heap.size + 1 + 1, 0, none⟩ = _ := HX2.out.g0
  have g1 : v3.frozen? ⟨w.heap.size + 1 + 1, 1, none⟩ = _ := HX2.out.g1
  have g2 : v3.frozen? ⟨w.heap.size + 1 + 1, 2, none⟩ = _ := HX2.out.g2
  obtain ⟨r0, r1, r2⟩ := read3 d0 d1 d2 (.string S) (.int .i64 (q : Int)) (.int .i64 e1)
  have qe : (e1 == e1) = true := by simp
  have qq : ((q : Int) == (q : Int)) = true := by simp
  have hnn : ¬ w.heap.size + 1 + 1 = w.heap.size := by omega
  go_region_held3 (fun w' => w'.cell? ⟨w.heap.size, 0, none⟩ = some (.string S) ∧ w'.cell? ⟨w.heap.size, 1, none⟩ = some (.int .i64 (q : Int)) ∧ w'.cell? ⟨w.heap.size, 2, none⟩ = some (.int .i64 e1)) (first | go_keep | exact ⟨far_cell (far_cell (far_cell c0 hnn) hnn) hnn, far_cell (far_cell (far_cell c1 hnn) hnn) hnn, far_cell (far_cell (far_cell c2 hnn) hnn) hnn⟩)
    (first | (go_at_call 82; refine (err_any _ B true S q e1 ?_).mono ?_; (exact HX2.out.sc); rintro e w' ⟨rfl, rfl⟩; rw [if_pos rfl]) | (go_at_call 83; refine (at_any _ B true S q e1 ?_).mono ?_; (exact HX2.out.sc); rintro e w' ⟨rfl, rfl⟩))
  go_wp2_with fail
  refine bodyPost_ret (v := .tuple #[sv S q e1, .bool true]) (by simp [sv, results, Try.results56, go_sem, r0, r1, r2]) rfl ⟨q, e1, hq, rfl, ?_, ?_⟩
  · exact Sc.drew (HX2.out.fin _ _ _).1
  · exact But.drew (HX2.out.fin _ _ _).2

set_option maxHeartbeats 3200000 in
set_option maxRecDepth 100000 in
theorem reads0 (B : Nat) (S : ByteArray) (q : Nat) (er k n : Int) (w : World) (hq : q ≤ S.size) (hs : Sc w B true S q er) (k1 : (k == 1) = false) (k2 : (k == 2) = false) (k3 : (k == 3) = false) (k4 : (k == 4) = false) (k5 : (k == 5) = false) (k6 : (k == 6) = false) (k7 : (k == 7) = false) (k8 : (k == 8) = false) :
    Calls Try.prog 56 #[.pointer (some ⟨B, 0, none⟩), .agg #[.string S, .int .i64 (q : Int), .int .i64 er], .agg #[.int .i64 k, .int .i64 n]] w (ReadsIs B S w) := by
  have HB := Lib.hid (Bx.start B S q er k n w hs)
  go_enter Try.func56, Try.ntmps56
  go_wp2_with fail
  have HX2 := Lib.hid HB.out
  clear HB
  generalize (((w.alloc (.cells #[.string S, .int .i64 (q : Int), .int .i64 er] 60)).alloc (.cells #[.int .i64 k, .int .i64 n] 62)).alloc (.cells #[.string ⟨#[]⟩, .int .i64 0, .int .i64 0] 60)) = v3 at *
  have c0 := HX2.out.c0
  have c1 := HX2.out.c1
  have c2 := HX2.out.c2
  have d0 : v3.cell? ⟨w.heap.size + 1 + 1, 0, none⟩ = _ := HX2.out.d0
  have d1 : v3.cell? ⟨w.heap.size + 1 + 1, 1, none⟩ = _ := HX2.out.d1
  have d2 : v3.cell? ⟨w.heap.size + 1 + 1, 2, none⟩ = _ := HX2.out.d2
  have g0 : v3.frozen? ⟨w.heap.size + 1 + 1, 0, none⟩ = _ := HX2.out.g0
  have g1 : v3.frozen? ⟨w.heap.size + 1 + 1, 1, none⟩ = _ := HX2.out.g1
  have g2 : v3.frozen? ⟨w.heap.size + 1 + 1, 2, none⟩ = _ := HX2.out.g2
  obtain ⟨r0, r1, r2⟩ := read3 d0 d1 d2 (.string S) (.int .i64 (q : Int)) (.int .i64 er)
  have qe : (er == er) = true := by simp
  have qq : ((q : Int) == (q : Int)) = true := by simp
  have hnn : ¬ w.heap.size + 1 + 1 = w.heap.size := by omega
  go_region_held3 (fun w' => w'.cell? ⟨w.heap.size, 0, none⟩ = some (.string S) ∧ w'.cell? ⟨w.heap.size, 1, none⟩ = some (.int .i64 (q : Int)) ∧ w'.cell? ⟨w.heap.size, 2, none⟩ = some (.int .i64 er)) (first | go_keep | exact ⟨far_cell (far_cell (far_cell c0 hnn) hnn) hnn, far_cell (far_cell (far_cell c1 hnn) hnn) hnn, far_cell (far_cell (far_cell c2 hnn) hnn) hnn⟩)
    (first | (go_at_call 82; refine (err_any _ B true S q er ?_).mono ?_; (exact HX2.out.sc); rintro e w' ⟨rfl, rfl⟩; rw [if_pos rfl]) | (go_at_call 83; refine (at_any _ B true S q er ?_).mono ?_; (exact HX2.out.sc); rintro e w' ⟨rfl, rfl⟩))
  go_wp2_with fail
  refine bodyPost_ret (v := .tuple #[sv S q er, .bool true]) (by simp [sv, results, Try.results56, go_sem, r0, r1, r2]) rfl ⟨q, er, hq, rfl, ?_, ?_⟩
  · exact Sc.drew (HX2.out.fin _ _ _).1
  · exact But.drew (HX2.out.fin _ _ _).2

end Go.Proofs.Ytgbagifmelkkhaa
