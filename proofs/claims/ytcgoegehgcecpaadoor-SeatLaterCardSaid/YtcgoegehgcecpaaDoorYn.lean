/- The chapter's example of layer 8 and the statement on Full over this translation. Condition: the table of crc. -/
import Derived.Test.YtcgoegehgcecpaaDoorYm
namespace Go.Proofs.YtcgoegehgcecpaaDoor
open Go.RowKit Vi Cm

theorem blk_newN {W : World} {o : Obj} {n : Nat} (h : W.heap.size = n) : (W.alloc o).heap[n]? = some o := by subst h; exact blk_new W o
theorem noughts_none : ¬ IsHead (noughts 128) := by
  intro ⟨a, b, c, d, _, h⟩
  have h1 := (head_front a b c d).2
  rw [← h] at h1
  have h2 : (bareT (noughts 128)).size = 0 := by decide +kernel
  rw [h1, sealH_size] at h2
  omega
theorem bst_aw : bst (0, 0, 0, 0) (1, 0, 0, 1) 2 = (1, 0, 0, 1) := by decide +kernel
theorem choose_aw (W : World) (hT : Tab W) : Calls Tryd.prog 38 #[.string (noughts 128), .string (headS 1 0 0 1)] W fun e w' => e = .returned (.tuple #[.agg #[.int .i64 1, .int .i64 0, .int .i64 0, .int .i64 1], .bool true]) ∧ Below W.heap.size W w' := by
  have h := choose_any (noughts 128) (headS 1 0 0 1) 0 0 0 0 3 1 0 0 1 0 (tkF_no _ (by rw [noughts_size]; omega) noughts_none) (tkF_yes 1 0 0 1 (by decide +kernel)) W hT
  rw [bst_aw] at h
  exact h
set_option maxHeartbeats 1000000 in
set_option maxRecDepth 100000 in
theorem awake08 (w : World) (hT : Tab w) : Calls Tryd.prog 33 #[] w fun e w' => e = .returned (.bool true) ∧ Below w.heap.size w w' := by
  have HT := Lib.hid hT
  have HP := Lib.hid (fun (W : World) (h : Tab W) => hput_yes 1 0 0 1 W h (by decide +kernel) (by omega) (by omega) (by omega) (by omega))
  have HC := Lib.hid (fun (W : World) (h : Tab W) => choose_aw W h)
  have hz := head_size 1 0 0 1
  generalize headS 1 0 0 1 = S at HP HC hz
  have HZ := Lib.hid hz
  have hz1 : ((S.size : Int) == 128) = true := by rw [hz]; rfl
  generalize hN : noughts 128 = N at HC
  have HN := Lib.hid (fun W : World => noughts128_any W)
  rw [hN] at HN
  clear hN hz hT
  have HB1 := Lib.hid (Below.refl w.heap.size w)
  go_enter Tryd.func33, Tryd.ntmps33
  go_wp2_with fail
  have HF2 := Lib.hid (blk_new w (.cells #[.int .i64 1, .int .i64 0, .int .i64 0, .int .i64 1] 48 (0, 0)))
  have HB3 := Lib.hid (HB1.out.alloc HB1.out.size (.cells #[.int .i64 1, .int .i64 0, .int .i64 0, .int .i64 1] 48 (0, 0)))
  clear HB1
  refine (HP.out (w.alloc (.cells #[.int .i64 1, .int .i64 0, .int .i64 0, .int .i64 1] 48 (0, 0))) (HT.out.later HB3.out)).mono ?_
  rintro e w1 ⟨rfl, hb1⟩
  have HF4 := Lib.hid (blk_below HF2.out hb1)
  have HB5 := Lib.hid (HB3.out.trans (hb1.mono HB3.out.size))
  clear hb1 HB3 HF2
  go_wp2_with fail
  refine (HN.out w1).mono ?_
  rintro e w2 ⟨rfl, hb2⟩
  have HF6 := Lib.hid (blk_below HF4.out hb2)
  have HB7 := Lib.hid (HB5.out.trans (hb2.mono HB5.out.size))
  clear hb2 HB5 HF4
  go_wp2_with fail
  refine (HC.out w2 (HT.out.later HB7.out)).mono ?_
  rintro e w3 ⟨rfl, hb3⟩
  have HF8 := Lib.hid (blk_below HF6.out hb3)
  have HB9 := Lib.hid (HB7.out.trans (hb3.mono HB7.out.size))
  clear hb3 HB7 HF6
  have HF10 := Lib.hid (blk_alloc HF8.out (.cells #[.int .i64 1, .int .i64 0, .int .i64 0, .int .i64 1] 48 (0, 0)))
  have HF11 := Lib.hid (blk_new w3 (.cells #[.int .i64 1, .int .i64 0, .int .i64 0, .int .i64 1] 48 (0, 0)))
  have HB12 := Lib.hid (HB9.out.alloc HB9.out.size (.cells #[.int .i64 1, .int .i64 0, .int .i64 0, .int .i64 1] 48 (0, 0)))
  clear HB9
  have hc13 : (w3.alloc (.cells #[.int .i64 1, .int .i64 0, .int .i64 0, .int .i64 1] 48 (0, 0))).cell? ⟨w.heap.size, 0, none⟩ = some (.int .i64 1) := by rw [cell_of_row _ _ _ _ _ _ HF10.out]; rfl
  have hc14 : w3.cell? ⟨w.heap.size, 0, none⟩ = some (.int .i64 1) := by rw [cell_of_row _ _ _ _ _ _ HF8.out]; rfl
  have hc15 : (w3.alloc (.cells #[.int .i64 1, .int .i64 0, .int .i64 0, .int .i64 1] 48 (0, 0))).cell? ⟨w.heap.size, 1, none⟩ = some (.int .i64 0) := by rw [cell_of_row _ _ _ _ _ _ HF10.out]; rfl
  have hc16 : w3.cell? ⟨w.heap.size, 1, none⟩ = some (.int .i64 0) := by rw [cell_of_row _ _ _ _ _ _ HF8.out]; rfl
  have hc17 : (w3.alloc (.cells #[.int .i64 1, .int .i64 0, .int .i64 0, .int .i64 1] 48 (0, 0))).cell? ⟨w.heap.size, 2, none⟩ = some (.int .i64 0) := by rw [cell_of_row _ _ _ _ _ _ HF10.out]; rfl
  have hc18 : w3.cell? ⟨w.heap.size, 2, none⟩ = some (.int .i64 0) := by rw [cell_of_row _ _ _ _ _ _ HF8.out]; rfl
  have hc19 : (w3.alloc (.cells #[.int .i64 1, .int .i64 0, .int .i64 0, .int .i64 1] 48 (0, 0))).cell? ⟨w.heap.size, 3, none⟩ = some (.int .i64 1) := by rw [cell_of_row _ _ _ _ _ _ HF10.out]; rfl
  have hc20 : w3.cell? ⟨w.heap.size, 3, none⟩ = some (.int .i64 1) := by rw [cell_of_row _ _ _ _ _ _ HF8.out]; rfl
  have hl21 : w.heap.size < w3.heap.size := lt_of_block HF8.out
  have hl22 : ¬ w.heap.size = w3.heap.size := by omega
  go_wp2_with fail
  clear hc13 hc14 hc15 hc16 hc17 hc18 hc19 hc20 hl21 hl22
  go_ret
  exact ⟨rfl, HB12.out⟩
namespace LSeatFull
set_option maxHeartbeats 1000000 in
set_option maxRecDepth 100000 in
theorem walk (s : ByteArray) (w : World) (hT : Tab w) :
    Calls Tryd.prog 8 #[.string s] w fun e w' => e = .returned (.bool true) ∧ Below w.heap.size w w' := by
  have HT := Lib.hid hT
  have HA := Lib.hid (fun (W : World) (h : Tab W) => awake08 W h)
  clear hT
  by_cases h1 : s.size ≤ 1000
  · have hd : decide ((1000 : Int) < (s.size : Int)) = false := decide_eq_false (by omega)
    by_cases h2 : s.size ≤ 128
    · have hd2 : decide ((128 : Int) < (s.size : Int)) = false := decide_eq_false (by omega)
      have HF := Lib.hid (fun W : World => full_yes s W h2)
      have HG := Lib.hid (fun W : World => pfull_any s W h2)
      generalize fullS s = t at HF HG
      clear h1 h2
      have HB1 := Lib.hid (Below.refl w.heap.size w)
      go_enter Tryd.func8, Tryd.ntmps8
      go_wp2_with fail
      refine (HF.out w).mono ?_
      rintro e w1 ⟨rfl, hb1⟩
      have HB2 := Lib.hid (HB1.out.trans (hb1.mono HB1.out.size))
      clear hb1 HB1 
      go_wp2_with fail
      refine (HG.out w1).mono ?_
      rintro e w2 ⟨rfl, hb2⟩
      have HB3 := Lib.hid (HB2.out.trans (hb2.mono HB2.out.size))
      clear hb2 HB2 
      go_wp2_with fail
      refine (HA.out w2 (HT.out.later HB3.out)).mono ?_
      rintro e w3 ⟨rfl, hb3⟩
      have HB4 := Lib.hid (HB3.out.trans (hb3.mono HB3.out.size))
      clear hb3 HB3 
      go_wp2_with fail
      go_ret
      exact ⟨rfl, HB4.out⟩
    · have hd2 : decide ((128 : Int) < (s.size : Int)) = true := decide_eq_true (by omega)
      have HF := Lib.hid (fun W : World => full_no s W (by omega))
      clear h1 h2
      have HB1 := Lib.hid (Below.refl w.heap.size w)
      go_enter Tryd.func8, Tryd.ntmps8
      go_wp2_with fail
      refine (HF.out w).mono ?_
      rintro e w1 ⟨rfl, hb1⟩
      have HB2 := Lib.hid (HB1.out.trans (hb1.mono HB1.out.size))
      clear hb1 HB1 
      go_wp2_with fail
      refine (HA.out w1 (HT.out.later HB2.out)).mono ?_
      rintro e w2 ⟨rfl, hb2⟩
      have HB3 := Lib.hid (HB2.out.trans (hb2.mono HB2.out.size))
      clear hb2 HB2 
      go_wp2_with fail
      go_ret
      exact ⟨rfl, HB3.out⟩
  · have hd : decide ((1000 : Int) < (s.size : Int)) = true := decide_eq_true (by omega)
    clear h1
    have HB1 := Lib.hid (Below.refl w.heap.size w)
    go_enter Tryd.func8, Tryd.ntmps8
    go_wp2_with fail
    refine (HA.out w (HT.out.later HB1.out)).mono ?_
    rintro e w1 ⟨rfl, hb1⟩
    have HB2 := Lib.hid (HB1.out.trans (hb1.mono HB1.out.size))
    clear hb1 HB1 
    go_wp2_with fail
    go_ret
    exact ⟨rfl, HB2.out⟩
end LSeatFull
end Go.Proofs.YtcgoegehgcecpaaDoor
