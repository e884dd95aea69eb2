/- The document's readings of layer 4 that call others: Int, Text and Byte. Condition: texts of at most a million bytes. -/
import Derived.Test.YtiflieaemgamkaaGreatDoorQa
import Derived.Deep.DeepCutAuto
namespace Go.Proofs.YtiflieaemgamkaaGreatDoor
open Go.RowKit Vi

theorem wrap_one (c : UInt8) (h : 0 < (⟨#[c]⟩ : ByteArray).size) : wrap64 ((((⟨#[c]⟩ : ByteArray)[0]'h).toNat : Nat) : Int) = (c.toNat : Int) := by
  show wrap64 (c.toNat : Int) = _
  have := c.toNat_lt
  go_arith
theorem far_cell1 {w : World} {c i j : Nat} {x v : Value} (h : w.cell? ⟨c, j, none⟩ = some v) (hne : i ≠ j) : (w.setCell ⟨c, i, none⟩ x).cell? ⟨c, j, none⟩ = some v := by
  rw [World.cell?_setCell_other _ _ _ _ (addr_ne _ _ _ hne)]; exact h

set_option maxHeartbeats 800000 in
set_option maxRecDepth 100000 in
theorem rText_any (S : ByteArray) (q : Nat) (er n : Int) (w : World) (hS : S.size ≤ 1000000) (hq : q ≤ S.size) (hn0 : -9223372036854775808 ≤ n) (hn1 : n ≤ 9223372036854775807) :
    Calls Tryz.prog 146 #[.agg #[.string S, .int .i64 (q : Int), .int .i64 er], .int .i64 n] w fun e w' => e = .returned (.tuple #[sv S (Rd.text S q er n).2.1 (Rd.text S q er n).2.2, .string (Rd.text S q er n).1]) ∧ Below w.heap.size w w' := by
  have hq1 := Rd.num_le S q er n hq
  have hnb := Rd.num_bd S q er n hn1
  rw [show Rd.text S q er n = Rd.fix S (Rd.num S q er n).2.1 (Rd.num S q er n).2.2 (Rd.num S q er n).1 from rfl]
  obtain ⟨x1, q1, e1, hN⟩ : ∃ x q' e', Rd.num S q er n = (x, q', e') := ⟨_, _, _, rfl⟩
  rw [hN] at hq1 hnb ⊢
  dsimp only at hq1 hnb ⊢
  obtain ⟨y, q2, e2, hF⟩ : ∃ y q' e', Rd.fix S q1 e1 x1 = (y, q', e') := ⟨_, _, _, rfl⟩
  rw [hF]
  dsimp only
  have HN := Lib.hid hN
  have HF := Lib.hid hF
  clear hN hF
  go_enter Tryz.func146, Tryz.ntmps146
  go_wp2_with fail
  refine (rNum_any S q er n _ hS hq hn0 hn1).mono ?_
  rintro e w1 ⟨rfl, hb1⟩
  rw [HN.out]
  have p0 := box_at2 hb1 0 rfl
  have p1 := box_at2 hb1 1 rfl
  have p2 := box_at2 hb1 2 rfl
  have y0 := box_free2 hb1 0
  have y1 := box_free2 hb1 1
  have y2 := box_free2 hb1 2
  have d0 := box_at hb1 (n := w.heap.size + 1) (by simp) 0 rfl
  have d1 := box_at hb1 (n := w.heap.size + 1) (by simp) 1 rfl
  have d2 := box_at hb1 (n := w.heap.size + 1) (by simp) 2 rfl
  have z0 := box_free hb1 (n := w.heap.size + 1) (by simp) 0
  have z1 := box_free hb1 (n := w.heap.size + 1) (by simp) 1
  have z2 := box_free hb1 (n := w.heap.size + 1) (by simp) 2
  have hsz := size_two hb1
  have hbb := below_two hb1
  have hnn : ¬ w.heap.size = w.heap.size + 1 := by omega
  clear hb1
  obtain ⟨s0, s1, s2⟩ := read3 p0 p1 p2 (.string S) (.int .i64 (q1 : Int)) (.int .i64 e1)
  have c0 := far_cell1 (i := 2) (x := (.int .i64 e1)) (far_cell1 (i := 1) (x := (.int .i64 (q1 : Int))) s0 (by decide)) (by decide)
  have c1 := far_cell1 (i := 2) (x := (.int .i64 e1)) s1 (by decide)
  have m0 := far_cell (b := w.heap.size) (i := 2) (x := (.int .i64 e1)) (far_cell (b := w.heap.size) (i := 1) (x := (.int .i64 (q1 : Int))) (far_cell (b := w.heap.size) (i := 0) (x := (.string S)) d0 (by omega)) (by omega)) (by omega)
  have m1 := far_cell (b := w.heap.size) (i := 2) (x := (.int .i64 e1)) (far_cell (b := w.heap.size) (i := 1) (x := (.int .i64 (q1 : Int))) (far_cell (b := w.heap.size) (i := 0) (x := (.string S)) d1 (by omega)) (by omega)) (by omega)
  have m2 := far_cell (b := w.heap.size) (i := 2) (x := (.int .i64 e1)) (far_cell (b := w.heap.size) (i := 1) (x := (.int .i64 (q1 : Int))) (far_cell (b := w.heap.size) (i := 0) (x := (.string S)) d2 (by omega)) (by omega)) (by omega)
  have g0 := far_free (b := w.heap.size) (i := 2) (x := (.int .i64 e1)) (far_free (b := w.heap.size) (i := 1) (x := (.int .i64 (q1 : Int))) (far_free (b := w.heap.size) (i := 0) (x := (.string S)) z0))
  have g1 := far_free (b := w.heap.size) (i := 2) (x := (.int .i64 e1)) (far_free (b := w.heap.size) (i := 1) (x := (.int .i64 (q1 : Int))) (far_free (b := w.heap.size) (i := 0) (x := (.string S)) z1))
  have g2 := far_free (b := w.heap.size) (i := 2) (x := (.int .i64 e1)) (far_free (b := w.heap.size) (i := 1) (x := (.int .i64 (q1 : Int))) (far_free (b := w.heap.size) (i := 0) (x := (.string S)) z2))
  have hb2 := ((hbb.setCell (Nat.le_refl _) (.string S) (p := ⟨w.heap.size, 0, none⟩)).setCell (Nat.le_refl _) (.int .i64 (q1 : Int)) (p := ⟨w.heap.size, 1, none⟩)).setCell (Nat.le_refl _) (.int .i64 e1) (p := ⟨w.heap.size, 2, none⟩)
  have hsz2 : w.heap.size + 1 + 1 ≤ (((w1.setCell ⟨w.heap.size, 0, none⟩ (.string S)).setCell ⟨w.heap.size, 1, none⟩ (.int .i64 (q1 : Int))).setCell ⟨w.heap.size, 2, none⟩ (.int .i64 e1)).heap.size := by simpa using hsz
  have G := Lib.hid (And.intro m0 (And.intro m1 (And.intro m2 (And.intro g0 (And.intro g1 (And.intro g2 (And.intro c0 (And.intro c1 (And.intro s2 (And.intro hb2 hsz2))))))))))
  clear d0 d1 d2 m0 m1 m2 g0 g1 g2 c0 c1 s0 s1 s2 hsz2 hb2 hbb
  unfold sv
  go_upto_region 2 with (fail)
  generalize (((w1.setCell ⟨w.heap.size, 0, none⟩ (.string S)).setCell ⟨w.heap.size, 1, none⟩ (.int .i64 (q1 : Int))).setCell ⟨w.heap.size, 2, none⟩ (.int .i64 e1)) = w2 at *
  obtain ⟨m0, m1, m2, g0, g1, g2, c0, c1, c2, hb2, hsz2⟩ := G.out
  clear p0 p1 p2 y0 y1 y2 z0 z1 z2 G hsz
  by_cases he1 : e1 = 0
  rotate_left
  · have he' : (e1 != 0) = true := by simpa using he1
    have hy := HF.out
    unfold Rd.fix at hy
    rw [if_pos he1] at hy
    simp only [Prod.mk.injEq] at hy
    obtain ⟨rfl, rfl, rfl⟩ := hy
    obtain ⟨r0, r1, r2⟩ := read3 m0 m1 m2 (.string S) (.int .i64 (q1 : Int)) (.int .i64 e1)
    clear HF
    go_wp2
    refine bodyPost_ret (v := .tuple #[sv S q1 e1, .string ⟨#[]⟩]) (by simp [sv, results, Tryz.results146, go_sem, r0, r1, r2]) rfl ⟨rfl, by go_grown⟩
  · have he' : (e1 != 0) = false := by simpa using he1
    clear he1
    go_wp2_with fail
    refine (rfix_any S q1 e1 x1 _ hS hq1 (by omega) (by omega)).mono ?_
    rintro e w3 ⟨rfl, hb3⟩
    rw [HF.out]
    have f0 := (hb3.cell (p := ⟨w.heap.size + 1, 0, none⟩) (by simp; omega)).trans m0
    have f1 := (hb3.cell (p := ⟨w.heap.size + 1, 1, none⟩) (by simp; omega)).trans m1
    have f2 := (hb3.cell (p := ⟨w.heap.size + 1, 2, none⟩) (by simp; omega)).trans m2
    have h0 := (hb3.frozen (p := ⟨w.heap.size + 1, 0, none⟩) (by simp; omega)).trans g0
    have h1 := (hb3.frozen (p := ⟨w.heap.size + 1, 1, none⟩) (by simp; omega)).trans g1
    have h2 := (hb3.frozen (p := ⟨w.heap.size + 1, 2, none⟩) (by simp; omega)).trans g2
    have hb4 : Below w.heap.size w w3 := hb2.trans (hb3.mono (by omega))
    obtain ⟨r0, r1, r2⟩ := read3 f0 f1 f2 (.string S) (.int .i64 (q2 : Int)) (.int .i64 e2)
    clear m0 m1 m2 g0 g1 g2 c0 c1 c2 hb2 hb3
    unfold sv
    go_wp2
    refine bodyPost_ret (v := .tuple #[sv S q2 e2, .string y]) (by simp [sv, results, Tryz.results146, go_sem, r0, r1, r2]) rfl ⟨rfl, by go_grown⟩

theorem fix_one (S : ByteArray) (q : Nat) (hq : q < S.size) : (S.extract q S.size).extract 0 1 = ⟨#[S[q]]⟩ := by
  rw [ByteArray.extract_extract, Nat.add_zero, Nat.min_eq_left (by omega)]
  apply ByteArray.ext
  rw [ByteArray.data_extract]
  apply Array.ext
  · simp; omega
  · intro i h1 h2
    obtain rfl : i = 0 := by simp at h2; omega
    simp
    rfl

set_option maxHeartbeats 1600000 in
set_option maxRecDepth 100000 in
theorem rByte_any (S : ByteArray) (q : Nat) (er : Int) (w : World) (hS : S.size ≤ 1000000) (hq : q ≤ S.size) :
    Calls Tryz.prog 186 #[.agg #[.string S, .int .i64 (q : Int), .int .i64 er]] w fun e w' => e = .returned (.tuple #[sv S (Rd.byte S q er).2.1 (Rd.byte S q er).2.2, .int .i64 (Rd.byte S q er).1]) ∧ Below w.heap.size w w' := by
  obtain ⟨y, q1, e1, hF⟩ : ∃ y q' e', Rd.fix S q er 1 = (y, q', e') := ⟨_, _, _, rfl⟩
  have HF := Lib.hid hF
  clear hF
  go_enter Tryz.func186, Tryz.ntmps186
  go_wp2_with fail
  refine (rfix_any S q er 1 _ hS hq (by omega) (by omega)).mono ?_
  rintro e w1 ⟨rfl, hb1⟩
  rw [HF.out]
  have p0 := box_at2 hb1 0 rfl
  have p1 := box_at2 hb1 1 rfl
  have p2 := box_at2 hb1 2 rfl
  have y0 := box_free2 hb1 0
  have y1 := box_free2 hb1 1
  have y2 := box_free2 hb1 2
  have d0 := box_at hb1 (n := w.heap.size + 1) (by simp) 0 rfl
  have d1 := box_at hb1 (n := w.heap.size + 1) (by simp) 1 rfl
  have d2 := box_at hb1 (n := w.heap.size + 1) (by simp) 2 rfl
  have z0 := box_free hb1 (n := w.heap.size + 1) (by simp) 0
  have z1 := box_free hb1 (n := w.heap.size + 1) (by simp) 1
  have z2 := box_free hb1 (n := w.heap.size + 1) (by simp) 2
  have hsz := size_two hb1
  have hbb := below_two hb1
  have hnn : ¬ w.heap.size = w.heap.size + 1 := by omega
  clear hb1
  obtain ⟨s0, s1, s2⟩ := read3 p0 p1 p2 (.string S) (.int .i64 (q1 : Int)) (.int .i64 e1)
  have c0 := far_cell1 (i := 2) (x := (.int .i64 e1)) (far_cell1 (i := 1) (x := (.int .i64 (q1 : Int))) s0 (by decide)) (by decide)
  have c1 := far_cell1 (i := 2) (x := (.int .i64 e1)) s1 (by decide)
  have m0 := far_cell (b := w.heap.size) (i := 2) (x := (.int .i64 e1)) (far_cell (b := w.heap.size) (i := 1) (x := (.int .i64 (q1 : Int))) (far_cell (b := w.heap.size) (i := 0) (x := (.string S)) d0 (by omega)) (by omega)) (by omega)
  have m1 := far_cell (b := w.heap.size) (i := 2) (x := (.int .i64 e1)) (far_cell (b := w.heap.size) (i := 1) (x := (.int .i64 (q1 : Int))) (far_cell (b := w.heap.size) (i := 0) (x := (.string S)) d1 (by omega)) (by omega)) (by omega)
  have m2 := far_cell (b := w.heap.size) (i := 2) (x := (.int .i64 e1)) (far_cell (b := w.heap.size) (i := 1) (x := (.int .i64 (q1 : Int))) (far_cell (b := w.heap.size) (i := 0) (x := (.string S)) d2 (by omega)) (by omega)) (by omega)
  have g0 := far_free (b := w.heap.size) (i := 2) (x := (.int .i64 e1)) (far_free (b := w.heap.size) (i := 1) (x := (.int .i64 (q1 : Int))) (far_free (b := w.heap.size) (i := 0) (x := (.string S)) z0))
  have g1 := far_free (b := w.heap.size) (i := 2) (x := (.int .i64 e1)) (far_free (b := w.heap.size) (i := 1) (x := (.int .i64 (q1 : Int))) (far_free (b := w.heap.size) (i := 0) (x := (.string S)) z1))
  have g2 := far_free (b := w.heap.size) (i := 2) (x := (.int .i64 e1)) (far_free (b := w.heap.size) (i := 1) (x := (.int .i64 (q1 : Int))) (far_free (b := w.heap.size) (i := 0) (x := (.string S)) z2))
  have hb2 := ((hbb.setCell (Nat.le_refl _) (.string S) (p := ⟨w.heap.size, 0, none⟩)).setCell (Nat.le_refl _) (.int .i64 (q1 : Int)) (p := ⟨w.heap.size, 1, none⟩)).setCell (Nat.le_refl _) (.int .i64 e1) (p := ⟨w.heap.size, 2, none⟩)
  have G := Lib.hid (And.intro m0 (And.intro m1 (And.intro m2 (And.intro g0 (And.intro g1 (And.intro g2 (And.intro c0 (And.intro c1 (And.intro s2 hb2)))))))))
  clear d0 d1 d2 m0 m1 m2 g0 g1 g2 c0 c1 s0 s1 s2 hb2 hbb
  unfold sv
  go_upto_region 2 with (fail)
  generalize (((w1.setCell ⟨w.heap.size, 0, none⟩ (.string S)).setCell ⟨w.heap.size, 1, none⟩ (.int .i64 (q1 : Int))).setCell ⟨w.heap.size, 2, none⟩ (.int .i64 e1)) = w2 at *
  obtain ⟨m0, m1, m2, g0, g1, g2, c0, c1, c2, hb2⟩ := G.out
  clear p0 p1 p2 y0 y1 y2 z0 z1 z2 G hsz
  obtain ⟨r0, r1, r2⟩ := read3 m0 m1 m2 (.string S) (.int .i64 (q1 : Int)) (.int .i64 e1)
  have hy := HF.out
  unfold Rd.fix at hy
  by_cases he : er = 0
  rotate_left
  · have he' : (er != 0) = true := by simpa using he
    rw [if_pos he] at hy
    simp only [Prod.mk.injEq] at hy
    obtain ⟨rfl, rfl, rfl⟩ := hy
    have HH := Lib.hid (show Rd.byte S q er = (0, q, er) by unfold Rd.byte; rw [if_pos he])
    clear HF he
    go_wp2
    rw [HH.out]
    refine bodyPost_ret (v := .tuple #[sv S q er, .int .i64 0]) (by simp [sv, results, Tryz.results186, go_sem, r0, r1, r2]) rfl ⟨rfl, by go_grown⟩
  subst he
  rw [if_neg (by simp)] at hy
  by_cases hl : q < S.size
  · rw [if_neg (by omega)] at hy
    simp only [Prod.mk.injEq, Int.toNat_one] at hy
    rw [fix_one S q hl] at hy
    obtain ⟨rfl, rfl, rfl⟩ := hy
    have HH := Lib.hid (show Rd.byte S q 0 = ((S[q].toNat : Int), q + 1, 0) by unfold Rd.byte; rw [if_neg (by simp), dif_pos hl])
    clear HF
    generalize S[q] = c at HH
    have hcb : (c.toNat : Int) ≤ 255 := by have := c.toNat_lt; omega
    push_cast at c1 r1 r2
    go_wp2_with fail
    go_region
    all_goals go_wp2
    all_goals rw [HH.out]
    all_goals refine bodyPost_ret (v := .tuple #[sv S (q + 1) 0, .int .i64 (c.toNat : Int)]) (by simp [sv, results, Tryz.results186, go_sem, r0, r1, r2]; exact wrap_one c _) rfl ⟨rfl, by go_grown⟩
  · rw [if_pos (by omega)] at hy
    simp only [Prod.mk.injEq] at hy
    obtain ⟨rfl, rfl, rfl⟩ := hy
    have HH := Lib.hid (show Rd.byte S q 0 = (0, q, 3) by unfold Rd.byte; rw [if_neg (by simp), dif_neg hl])
    clear HF
    go_wp2
    rw [HH.out]
    refine bodyPost_ret (v := .tuple #[sv S q 3, .int .i64 0]) (by simp [sv, results, Tryz.results186, go_sem, r0, r1, r2]) rfl ⟨rfl, by go_grown⟩

end Go.Proofs.YtiflieaemgamkaaGreatDoor
