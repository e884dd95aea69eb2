/- FrameTakes: the text whose frame any bytes begin with, and all that stand at their front. Condition: the table that the program's text lays. -/
import Derived.Test.YtjmfmbokphagaaaDoorRows
import Derived.Test.YtjmfmbokphagaaaDoorGf
namespace Go.Proofs.YtjmfmbokphagaaaDoor.LFrameTakes
open Go.RowKit Vi Cm

set_option maxHeartbeats 1000000 in
set_option maxRecDepth 100000 in
theorem walk_long (s : ByteArray) (w : World) (hT : Tab w) (h : 5000 < s.size) :
    Calls Tryd.prog 8 #[.string s] w fun e w' => e = .returned (.bool true) ∧ Below w.heap.size w w' := by
  have HA := Lib.hid (awake14_any w hT)
  have hd : decide ((5000 : Int) < (s.size : Int)) = true := decide_eq_true (by omega)
  clear hT h
  go_enter Tryd.func8, Tryd.ntmps8
  go_wp2_with fail
  refine HA.out.mono ?_
  rintro e w1 ⟨rfl, hb⟩
  have HB := Lib.hid hb
  clear hb HA
  go_wp2_with fail
  go_ret
  exact ⟨rfl, HB.out⟩
set_option maxHeartbeats 4000000 in
set_option maxRecDepth 100000 in
theorem walk_short (s : ByteArray) (w : World) (hT : Tab w) (h : s.size ≤ 5000) :
    Calls Tryd.prog 8 #[.string s] w fun e w' => e = .returned (.bool true) ∧ Below w.heap.size w w' := by
  have HT := Lib.hid hT
  have HZ := Lib.hid h
  have hd : decide ((5000 : Int) < (s.size : Int)) = false := decide_eq_false (by omega)
  obtain ⟨X, q, e, hR⟩ : ∃ X q e, fr s 0 0 = (X, q, e) := ⟨_, _, _, rfl⟩
  have HR := Lib.hid hR
  obtain ⟨L, hL⟩ : ∃ L, (wh s).1 = L := ⟨_, rfl⟩
  obtain ⟨n, hn⟩ : ∃ n, (wh s).2 = n := ⟨_, rfl⟩
  have HLL := Lib.hid (show L.length ≤ s.size by rw [← hL]; exact wh_len s)
  have HNL := Lib.hid (show n ≤ s.size by rw [← hn]; exact wh_le s)
  have HL := Lib.hid hL
  have HN := Lib.hid hn
  clear hT h hR hL hn
  go_enter Tryd.func8, Tryd.ntmps8
  go_wp2_with fail
  refine (new_any s w).mono ?_
  rintro e' w1 ⟨rfl, h1, hb1⟩
  have H1 := Lib.hid h1
  have B1 := Lib.hid hb1
  clear h1 hb1
  go_wp2_with fail
  have hrd := read_any w1 w.heap.size s 0 0 (by have := HZ.out; omega) (Nat.zero_le _) H1.out (HT.out.later B1.out) (HT.out.ne (Nat.le_refl _))
  rw [HR.out] at hrd
  dsimp only at hrd
  refine hrd.mono ?_
  clear hrd
  rintro e' w2 ⟨rfl, h2, k2⟩
  have H2 := Lib.hid h2
  have B2 := Lib.hid (But.below B1.out k2 (Nat.le_refl _) B1.out.size)
  clear h2 k2 H1 B1
  go_wp2_with fail
  have hrr := rread_any s 0 0 w2 (by have := HZ.out; omega) (Nat.zero_le _)
  rw [HR.out] at hrr
  dsimp only at hrr
  unfold sv at hrr
  refine hrr.mono ?_
  clear hrr
  rintro e' w3 ⟨rfl, hb⟩
  have B3 := Lib.hid (B2.out.trans (hb.mono B2.out.size))
  have H3 := Lib.hid (H2.out.kept (hb.block _ H2.out.lt))
  clear hb H2 B2
  go_wp2_with (refine wpList_store_rowM rfl 55 (.tmp 5) (.tmp 28) rfl w3.heap.size #[.string s, .int .i64 (q : Int), .int .i64 e] rfl rfl 55 _ (heap_alloc_new w3 _) (info_scan _ _ _) rfl (one3 _ _ _) w3.heap.size w3 ((Below.refl _ w3).alloc (Nat.le_refl _) _) (Nat.le_refl _) ?_)
  intro w4 hblk hoth hbel hsz
  have HBK := Lib.hid hblk.out
  have B4 := Lib.hid (B3.out.trans (hbel.out.mono B3.out.size))
  have H4 := Lib.hid (H3.out.kept (hbel.out.block _ H3.out.lt))
  have HLT := Lib.hid (show w3.heap.size < w4.heap.size by rw [hsz.out]; simp)
  obtain ⟨M, hM⟩ : ∃ M, M = w3.heap.size := ⟨_, rfl⟩
  rw [← hM] at HBK HLT ⊢
  clear hblk hoth hbel hsz B3 H3 hM
  go_wp2_with fail
  have htk := take_any s w4 (by have := HZ.out; omega) (HT.out.later B4.out)
  by_cases he : e = 0
  · subst he
    rw [takeV_ok s X q HR.out] at htk
    refine htk.mono ?_
    clear htk
    rintro e' w5 ⟨rfl, hb⟩
    have B5 := Lib.hid (B4.out.trans (hb.mono B4.out.size))
    have H5 := Lib.hid (H4.out.kept (hb.block _ H4.out.lt))
    have hbk5 := (hb.block M HLT.out).trans HBK.out
    have c1 : w5.cell? ⟨M, 1, none⟩ = some (.int .i64 (q : Int)) := by rw [cell_of_row _ _ _ _ _ _ hbk5]; rfl
    have c2 : w5.cell? ⟨M, 2, none⟩ = some (.int .i64 0) := by rw [cell_of_row _ _ _ _ _ _ hbk5]; rfl
    have QE := Lib.hid (show ∀ n, Calls Tryd.prog 38 #[.pointer (some ⟨w.heap.size, 0, none⟩)] (w5.drewN n) fun e w' => e = .returned (.int .i64 0) ∧ w' = w5.drewN n from fun n => (err_any (w5.drewN n) w.heap.size true s q 0 H5.out).mono fun _ _ ⟨h1, h2⟩ => ⟨by first | exact h1 | exact h1.trans (by rw [if_pos rfl]) | simpa using h1, h2.symm⟩)
    have QA := Lib.hid (show ∀ n, Calls Tryd.prog 39 #[.pointer (some ⟨w.heap.size, 0, none⟩)] (w5.drewN n) fun e w' => e = .returned (.int .i64 (q : Int)) ∧ w' = w5.drewN n from fun n => (at_any (w5.drewN n) w.heap.size true s q 0 H5.out).mono fun _ _ ⟨h1, h2⟩ => ⟨by first | exact h1 | exact h1.trans (by rw [if_pos rfl]) | simpa using h1, h2.symm⟩)
    have hx : (X.toList != X.toList) = false := by simp
    clear hb hbk5 H4 B4 HBK HLT
    go_wp2_with fail
    go_quiet ((first | (go_at_call 38; with_reducible exact Calls.quiet_of_same (QE.out _)) | (go_at_call 39; with_reducible exact Calls.quiet_of_same (QA.out _))))
    have B6 := Lib.hid (show Below w.heap.size w (w5.drewN nq) from ⟨B5.out.os, B5.out.tape, B5.out.output, B5.out.size, B5.out.block⟩)
    obtain ⟨W, hW⟩ : ∃ W, W = w5.drewN nq := ⟨_, rfl⟩
    rw [← hW] at B6 ⊢
    clear hW B5 H5 QE QA c1 c2
    go_wp2_with fail
    have hwl := whole_any s W (by have := HZ.out; omega) (HT.out.later B6.out)
    rw [HL.out, HN.out] at hwl
    refine hwl.mono ?_
    clear hwl
    rintro e' w7 ⟨a1, x1, rfl, s1, l1, m1, b7⟩
    have B7 := Lib.hid (B6.out.trans (b7.mono B6.out.size))
    have S1 := Lib.hid s1
    clear s1 l1 m1 b7 B6
    go_wp2_with fail
    have hwl := rwhole_any s w7 (by have := HZ.out; omega)
    rw [HL.out, HN.out] at hwl
    refine hwl.mono ?_
    clear hwl
    rintro e' w8 ⟨a2, x2, rfl, s2, l2, m2, b8⟩
    have B8 := Lib.hid (B7.out.trans (b8.mono B7.out.size))
    have S2 := Lib.hid s2
    have S1b := Lib.hid (S1.out.later b8)
    clear s2 l2 m2 b8 B7 S1
    go_wp2_with fail
    by_cases hns : n = s.size
    · have hal := all_yes s w8 (by have := HZ.out; omega) (HT.out.later B8.out) (by rw [HN.out]; exact hns)
      rw [HL.out] at hal
      refine hal.mono ?_
      clear hal
      rintro e' w9 ⟨a3, x3, rfl, s3, b9⟩
      have B9 := Lib.hid (B8.out.trans (b9.mono B8.out.size))
      have S3 := Lib.hid s3
      have S1c := Lib.hid (S1b.out.later b9)
      have S2c := Lib.hid (S2.out.later b9)
      have hd9 : decide ((n : Int) < (s.size : Int)) = false := decide_eq_false (by omega)
      have hd10 : decide (n < s.size) = false := decide_eq_false (by omega)
      clear s3 b9 B8 S1b S2 hns
      go_wp2_with fail
      refine (ttexts_below a1 x1 a2 x2 L.length L w9 S1c.out S2c.out (by have := HLL.out; have := HZ.out; omega)).mono ?_
      rintro e' w10 ⟨rfl, b10⟩
      have B10 := Lib.hid (B9.out.trans (b10.mono B9.out.size))
      have S3d := Lib.hid (S3.out.later b10)
      have S2d := Lib.hid (S2c.out.later b10)
      clear b10 B9 S1c S2c S3
      go_wp2_with fail
      refine (ttexts_below a3 x3 a2 x2 L.length L w10 S3d.out S2d.out (by have := HLL.out; have := HZ.out; omega)).mono ?_
      rintro e' w11 ⟨rfl, b11⟩
      have B11 := Lib.hid (B10.out.trans (b11.mono B10.out.size))
      clear b11 B10 S2d S3d
      go_wp2_with fail
      refine (awake14_any w11 (HT.out.later B11.out)).mono ?_
      rintro e' w12 ⟨rfl, b12⟩
      have B12 := Lib.hid (B11.out.trans (b12.mono B11.out.size))
      clear b12 B11
      go_wp2_with fail
      go_ret
      exact ⟨rfl, B12.out⟩
    · have hal := all_no s w8 (by have := HZ.out; omega) (HT.out.later B8.out) (by rw [HN.out]; exact hns)
      refine hal.mono ?_
      clear hal
      rintro e' w9 ⟨rfl, b9⟩
      have B9 := Lib.hid (B8.out.trans (b9.mono B8.out.size))
      have S1c := Lib.hid (S1b.out.later b9)
      have S2c := Lib.hid (S2.out.later b9)
      have hd9 : decide ((n : Int) < (s.size : Int)) = true := decide_eq_true (by have := HNL.out; omega)
      have hd10 : decide (n < s.size) = true := decide_eq_true (by have := HNL.out; omega)
      clear b9 B8 S1b S2 hns
      go_wp2_with fail
      refine (ttexts_below a1 x1 a2 x2 L.length L w9 S1c.out S2c.out (by have := HLL.out; have := HZ.out; omega)).mono ?_
      rintro e' w10 ⟨rfl, b10⟩
      have B10 := Lib.hid (B9.out.trans (b10.mono B9.out.size))
      clear b10 B9 S1c S2c
      go_wp2_with fail
      refine (awake14_any w10 (HT.out.later B10.out)).mono ?_
      rintro e' w12 ⟨rfl, b12⟩
      have B12 := Lib.hid (B10.out.trans (b12.mono B10.out.size))
      clear b12 B10
      go_wp2_with fail
      go_ret
      exact ⟨rfl, B12.out⟩
  · have hX := fr_err s X 0 q 0 e HR.out he
    subst hX
    have hd3 : (e == 0) = false := by simpa using he
    have hd4 : (e != 0) = true := by simpa using he
    have hd5 : (e != e) = false := by simp
    rw [takeV_no s _ q e HR.out he] at htk
    refine htk.mono ?_
    clear htk he
    rintro e' w5 ⟨rfl, hb⟩
    have B5 := Lib.hid (B4.out.trans (hb.mono B4.out.size))
    have H5 := Lib.hid (H4.out.kept (hb.block _ H4.out.lt))
    have hbk5 := (hb.block M HLT.out).trans HBK.out
    have c1 : w5.cell? ⟨M, 1, none⟩ = some (.int .i64 (q : Int)) := by rw [cell_of_row _ _ _ _ _ _ hbk5]; rfl
    have c2 : w5.cell? ⟨M, 2, none⟩ = some (.int .i64 e) := by rw [cell_of_row _ _ _ _ _ _ hbk5]; rfl
    have QE := Lib.hid (show ∀ n, Calls Tryd.prog 38 #[.pointer (some ⟨w.heap.size, 0, none⟩)] (w5.drewN n) fun e' w' => e' = .returned (.int .i64 e) ∧ w' = w5.drewN n from fun n => (err_any (w5.drewN n) w.heap.size true s q e H5.out).mono fun _ _ ⟨h1, h2⟩ => ⟨by first | exact h1 | exact h1.trans (by rw [if_pos rfl]) | simpa using h1, h2.symm⟩)
    have QA := Lib.hid (show ∀ n, Calls Tryd.prog 39 #[.pointer (some ⟨w.heap.size, 0, none⟩)] (w5.drewN n) fun e' w' => e' = .returned (.int .i64 (q : Int)) ∧ w' = w5.drewN n from fun n => (at_any (w5.drewN n) w.heap.size true s q e H5.out).mono fun _ _ ⟨h1, h2⟩ => ⟨by first | exact h1 | exact h1.trans (by rw [if_pos rfl]) | simpa using h1, h2.symm⟩)
    clear hb hbk5 H4 B4 HBK HLT
    go_wp2_with fail
    go_quiet ((first | (go_at_call 38; with_reducible exact Calls.quiet_of_same (QE.out _)) | (go_at_call 39; with_reducible exact Calls.quiet_of_same (QA.out _))))
    have B6 := Lib.hid (show Below w.heap.size w (w5.drewN nq) from ⟨B5.out.os, B5.out.tape, B5.out.output, B5.out.size, B5.out.block⟩)
    obtain ⟨W, hW⟩ : ∃ W, W = w5.drewN nq := ⟨_, rfl⟩
    rw [← hW] at B6 ⊢
    clear hW B5 H5 QE QA c1 c2
    go_wp2_with fail
    have hwl := whole_any s W (by have := HZ.out; omega) (HT.out.later B6.out)
    rw [HL.out, HN.out] at hwl
    refine hwl.mono ?_
    clear hwl
    rintro e' w7 ⟨a1, x1, rfl, s1, l1, m1, b7⟩
    have B7 := Lib.hid (B6.out.trans (b7.mono B6.out.size))
    have S1 := Lib.hid s1
    clear s1 l1 m1 b7 B6
    go_wp2_with fail
    have hwl := rwhole_any s w7 (by have := HZ.out; omega)
    rw [HL.out, HN.out] at hwl
    refine hwl.mono ?_
    clear hwl
    rintro e' w8 ⟨a2, x2, rfl, s2, l2, m2, b8⟩
    have B8 := Lib.hid (B7.out.trans (b8.mono B7.out.size))
    have S2 := Lib.hid s2
    have S1b := Lib.hid (S1.out.later b8)
    clear s2 l2 m2 b8 B7 S1
    go_wp2_with fail
    by_cases hns : n = s.size
    · have hal := all_yes s w8 (by have := HZ.out; omega) (HT.out.later B8.out) (by rw [HN.out]; exact hns)
      rw [HL.out] at hal
      refine hal.mono ?_
      clear hal
      rintro e' w9 ⟨a3, x3, rfl, s3, b9⟩
      have B9 := Lib.hid (B8.out.trans (b9.mono B8.out.size))
      have S3 := Lib.hid s3
      have S1c := Lib.hid (S1b.out.later b9)
      have S2c := Lib.hid (S2.out.later b9)
      have hd9 : decide ((n : Int) < (s.size : Int)) = false := decide_eq_false (by omega)
      have hd10 : decide (n < s.size) = false := decide_eq_false (by omega)
      clear s3 b9 B8 S1b S2 hns
      go_wp2_with fail
      refine (ttexts_below a1 x1 a2 x2 L.length L w9 S1c.out S2c.out (by have := HLL.out; have := HZ.out; omega)).mono ?_
      rintro e' w10 ⟨rfl, b10⟩
      have B10 := Lib.hid (B9.out.trans (b10.mono B9.out.size))
      have S3d := Lib.hid (S3.out.later b10)
      have S2d := Lib.hid (S2c.out.later b10)
      clear b10 B9 S1c S2c S3
      go_wp2_with fail
      refine (ttexts_below a3 x3 a2 x2 L.length L w10 S3d.out S2d.out (by have := HLL.out; have := HZ.out; omega)).mono ?_
      rintro e' w11 ⟨rfl, b11⟩
      have B11 := Lib.hid (B10.out.trans (b11.mono B10.out.size))
      clear b11 B10 S2d S3d
      go_wp2_with fail
      refine (awake14_any w11 (HT.out.later B11.out)).mono ?_
      rintro e' w12 ⟨rfl, b12⟩
      have B12 := Lib.hid (B11.out.trans (b12.mono B11.out.size))
      clear b12 B11
      go_wp2_with fail
      go_ret
      exact ⟨rfl, B12.out⟩
    · have hal := all_no s w8 (by have := HZ.out; omega) (HT.out.later B8.out) (by rw [HN.out]; exact hns)
      refine hal.mono ?_
      clear hal
      rintro e' w9 ⟨rfl, b9⟩
      have B9 := Lib.hid (B8.out.trans (b9.mono B8.out.size))
      have S1c := Lib.hid (S1b.out.later b9)
      have S2c := Lib.hid (S2.out.later b9)
      have hd9 : decide ((n : Int) < (s.size : Int)) = true := decide_eq_true (by have := HNL.out; omega)
      have hd10 : decide (n < s.size) = true := decide_eq_true (by have := HNL.out; omega)
      clear b9 B8 S1b S2 hns
      go_wp2_with fail
      refine (ttexts_below a1 x1 a2 x2 L.length L w9 S1c.out S2c.out (by have := HLL.out; have := HZ.out; omega)).mono ?_
      rintro e' w10 ⟨rfl, b10⟩
      have B10 := Lib.hid (B9.out.trans (b10.mono B9.out.size))
      clear b10 B9 S1c S2c
      go_wp2_with fail
      refine (awake14_any w10 (HT.out.later B10.out)).mono ?_
      rintro e' w12 ⟨rfl, b12⟩
      have B12 := Lib.hid (B10.out.trans (b12.mono B10.out.size))
      clear b12 B10
      go_wp2_with fail
      go_ret
      exact ⟨rfl, B12.out⟩
theorem walk (s : ByteArray) (w : World) (hT : Tab w) :
    Calls Tryd.prog 8 #[.string s] w fun e w' => e = .returned (.bool true) ∧ Below w.heap.size w w' := by
  by_cases h : 5000 < s.size
  · exact walk_long s w hT h
  · exact walk_short s w hT (by omega)
end Go.Proofs.YtjmfmbokphagaaaDoor.LFrameTakes
