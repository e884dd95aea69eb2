/- The walk of GraphOps over this translation. Conditions: texts that are no longer than a text may be. -/
import Derived.Test.YtjnichiblljmjaaOpe
namespace Go.Proofs.Ytjnichiblljmjaa.LGraphOps
open Go.RowKit Vi

set_option maxRecDepth 100000 in
set_option maxHeartbeats 16000000 in
theorem walk (A A2 : Option Addr) (n c n2 c2 : Nat) (X : List Nd) (Y : List Ed) (o : Int) (i f g y : ByteArray) (a d : Int) (t : ByteArray) (w : World) (h : GrIs w A n A2 n2 X Y) (k : GrOk X Y) (hi : i.size ≤ maxLen) (hf : f.size ≤ maxLen) (hg : g.size ≤ maxLen) (hy : y.size ≤ maxLen) :
    Calls Try.prog 9 #[.agg #[.slice A n c, .slice A2 n2 c2], .agg #[.int .i64 o, .string i, .string f, .string g, .string y, .int .i64 a, .int .i64 d, .string t]] w fun e w' => e = .returned (.bool true) ∧ Below w.heap.size w w' := by
  have H := Lib.hid h
  have HL := Lib.hid h.nl
  have HFW := Lib.hid (fun (W : World) (q : GrIs W A n A2 n2 X Y) => few26_any A A2 n c n2 c2 X Y W q)
  have HWR := Lib.hid (fun (W : World) (q : GrIs W A n A2 n2 X Y) => wrong26_any A A2 n c n2 c2 X Y W q k)
  have HZN := Lib.hid (fun q : gW X Y = 0 => gW_nodes q)
  generalize gW X Y = z at HWR HZN
  obtain ⟨rb, HRR, HGR⟩ := both_right o i f g y a d t hi hf hg hy
  have HBT := Lib.hid (fun (A A2 : Option Addr) (n c n2 c2 : Nat) (ss : List ByteArray) (ps : List Pr) (k : RsOk n c ss n2 c2 ps) => both_turn A A2 n c n2 c2 ss ps o i f g y a d t k hy)
  clear h k
  have HB1 := Lib.hid (Below.refl w.heap.size w)
  go_enter Try.func9, Try.ntmps9
  have HF2 := Lib.hid (blk_new w (.cells #[.slice A n c, .slice A2 n2 c2] 39 (0, 0)))
  have HB3 := Lib.hid (HB1.out.alloc HB1.out.size (.cells #[.slice A n c, .slice A2 n2 c2] 39 (0, 0)))
  clear HB1
  have HF4 := Lib.hid (blk_alloc HF2.out (.cells #[.int .i64 o, .string i, .string f, .string g, .string y, .int .i64 a, .int .i64 d, .string t] 85 (0, 0)))
  clear HF2
  have HF5 : Hid (((w.alloc (.cells #[.slice A n c, .slice A2 n2 c2] 39 (0, 0))).alloc (.cells #[.int .i64 o, .string i, .string f, .string g, .string y, .int .i64 a, .int .i64 d, .string t] 85 (0, 0))).heap[w.heap.size + 1]? = some (.cells #[.int .i64 o, .string i, .string f, .string g, .string y, .int .i64 a, .int .i64 d, .string t] 85 (0, 0))) := Lib.hid (blk_newN (W := (w.alloc (.cells #[.slice A n c, .slice A2 n2 c2] 39 (0, 0)))) (o := (.cells #[.int .i64 o, .string i, .string f, .string g, .string y, .int .i64 a, .int .i64 d, .string t] 85 (0, 0))) (by simp))
  have HB6 := Lib.hid (HB3.out.alloc (by have := HB3.out.size; simp at this ⊢ <;> omega) (.cells #[.int .i64 o, .string i, .string f, .string g, .string y, .int .i64 a, .int .i64 d, .string t] 85 (0, 0)))
  clear HB3
  have hc7 : ((w.alloc (.cells #[.slice A n c, .slice A2 n2 c2] 39 (0, 0))).alloc (.cells #[.int .i64 o, .string i, .string f, .string g, .string y, .int .i64 a, .int .i64 d, .string t] 85 (0, 0))).cell? ⟨w.heap.size, 0, none⟩ = some (.slice A n c) := by rw [cell_of_row _ _ _ _ _ _ HF4.out]; rfl
  have hc8 : ((w.alloc (.cells #[.slice A n c, .slice A2 n2 c2] 39 (0, 0))).alloc (.cells #[.int .i64 o, .string i, .string f, .string g, .string y, .int .i64 a, .int .i64 d, .string t] 85 (0, 0))).cell? ⟨w.heap.size, 1, none⟩ = some (.slice A2 n2 c2) := by rw [cell_of_row _ _ _ _ _ _ HF4.out]; rfl
  go_wp2_with fail
  clear hc7 hc8
  refine (HFW.out ((w.alloc (.cells #[.slice A n c, .slice A2 n2 c2] 39 (0, 0))).alloc (.cells #[.int .i64 o, .string i, .string f, .string g, .string y, .int .i64 a, .int .i64 d, .string t] 85 (0, 0))) (H.out.below HB6.out)).mono ?_
  rintro e w1 ⟨b, rfl, hsm, hb1⟩
  have HF9 := Lib.hid (blk_below HF4.out hb1)
  have HF10 := Lib.hid (blk_below HF5.out hb1)
  have HB11 := Lib.hid (HB6.out.trans (hb1.mono (by have := HB6.out.size; simp at this ⊢ <;> omega)))
  clear hb1 HB6 HF4 HF5
  cases b with
  | false =>
    go_wp2_with fail
    refine (awake26 w1).mono ?_
    rintro e w2 ⟨rfl, hb2⟩
    have HF12 := Lib.hid (blk_below HF9.out hb2)
    have HF13 := Lib.hid (blk_below HF10.out hb2)
    have HB14 := Lib.hid (HB11.out.trans (hb2.mono HB11.out.size))
    clear hb2 HB11 HF9 HF10
    go_wp2_with fail
    go_ret
    exact ⟨rfl, HB14.out⟩
  | true =>
    obtain ⟨hn40, hn60⟩ := hsm rfl
    clear hsm
    have hc12 : w1.cell? ⟨w.heap.size, 0, none⟩ = some (.slice A n c) := by rw [cell_of_row _ _ _ _ _ _ HF9.out]; rfl
    have hc13 : w1.cell? ⟨w.heap.size, 1, none⟩ = some (.slice A2 n2 c2) := by rw [cell_of_row _ _ _ _ _ _ HF9.out]; rfl
    go_wp2_with fail
    clear hc12 hc13
    refine (HWR.out w1 (H.out.below HB11.out)).mono ?_
    rintro e w2 ⟨rfl, hb2⟩
    have HF14 := Lib.hid (blk_below HF9.out hb2)
    have HF15 := Lib.hid (blk_below HF10.out hb2)
    have HB16 := Lib.hid (HB11.out.trans (hb2.mono HB11.out.size))
    clear hb2 HB11 HF9 HF10
    by_cases hz : z = 0
    rotate_left
    · have hz1 : (z != 0) = true := by simpa using hz
      clear hz
      go_wp2_with fail
      refine (awake26 w2).mono ?_
      rintro e w3 ⟨rfl, hb3⟩
      have HF17 := Lib.hid (blk_below HF14.out hb3)
      have HF18 := Lib.hid (blk_below HF15.out hb3)
      have HB19 := Lib.hid (HB16.out.trans (hb3.mono HB16.out.size))
      clear hb3 HB16 HF14 HF15
      go_wp2_with fail
      go_ret
      exact ⟨rfl, HB19.out⟩
    have HZ := Lib.hid (HZN.out hz)
    clear HZN
    subst hz
    have hc17 : w2.cell? ⟨w.heap.size + 1, 0, none⟩ = some (.int .i64 o) := by rw [cell_of_row _ _ _ _ _ _ HF15.out]; rfl
    have hc18 : w2.cell? ⟨w.heap.size + 1, 1, none⟩ = some (.string i) := by rw [cell_of_row _ _ _ _ _ _ HF15.out]; rfl
    have hc19 : w2.cell? ⟨w.heap.size + 1, 2, none⟩ = some (.string f) := by rw [cell_of_row _ _ _ _ _ _ HF15.out]; rfl
    have hc20 : w2.cell? ⟨w.heap.size + 1, 3, none⟩ = some (.string g) := by rw [cell_of_row _ _ _ _ _ _ HF15.out]; rfl
    have hc21 : w2.cell? ⟨w.heap.size + 1, 4, none⟩ = some (.string y) := by rw [cell_of_row _ _ _ _ _ _ HF15.out]; rfl
    have hc22 : w2.cell? ⟨w.heap.size + 1, 5, none⟩ = some (.int .i64 a) := by rw [cell_of_row _ _ _ _ _ _ HF15.out]; rfl
    have hc23 : w2.cell? ⟨w.heap.size + 1, 6, none⟩ = some (.int .i64 d) := by rw [cell_of_row _ _ _ _ _ _ HF15.out]; rfl
    have hc24 : w2.cell? ⟨w.heap.size + 1, 7, none⟩ = some (.string t) := by rw [cell_of_row _ _ _ _ _ _ HF15.out]; rfl
    have HOW := Lib.hid (blk_new w2 (.cells #[.int .i64 o, .string i, .string f, .string g, .string y, .int .i64 a, .int .i64 d, .string t] 85 (0, 0)))
    have HF25 := Lib.hid (blk_alloc HF14.out (.cells #[.int .i64 o, .string i, .string f, .string g, .string y, .int .i64 a, .int .i64 d, .string t] 85 (0, 0)))
    have HF26 := Lib.hid (blk_alloc HF15.out (.cells #[.int .i64 o, .string i, .string f, .string g, .string y, .int .i64 a, .int .i64 d, .string t] 85 (0, 0)))
    have HF27 := Lib.hid (blk_new w2 (.cells #[.int .i64 o, .string i, .string f, .string g, .string y, .int .i64 a, .int .i64 d, .string t] 85 (0, 0)))
    have HB28 := Lib.hid (HB16.out.alloc HB16.out.size (.cells #[.int .i64 o, .string i, .string f, .string g, .string y, .int .i64 a, .int .i64 d, .string t] 85 (0, 0)))
    clear HB16
    have hc29 : (w2.alloc (.cells #[.int .i64 o, .string i, .string f, .string g, .string y, .int .i64 a, .int .i64 d, .string t] 85 (0, 0))).cell? ⟨w.heap.size + 1, 0, none⟩ = some (.int .i64 o) := by rw [cell_of_row _ _ _ _ _ _ HF26.out]; rfl
    have hc30 : w2.cell? ⟨w.heap.size + 1, 0, none⟩ = some (.int .i64 o) := by rw [cell_of_row _ _ _ _ _ _ HF15.out]; rfl
    have hc31 : (w2.alloc (.cells #[.int .i64 o, .string i, .string f, .string g, .string y, .int .i64 a, .int .i64 d, .string t] 85 (0, 0))).cell? ⟨w.heap.size + 1, 1, none⟩ = some (.string i) := by rw [cell_of_row _ _ _ _ _ _ HF26.out]; rfl
    have hc32 : w2.cell? ⟨w.heap.size + 1, 1, none⟩ = some (.string i) := by rw [cell_of_row _ _ _ _ _ _ HF15.out]; rfl
    have hc33 : (w2.alloc (.cells #[.int .i64 o, .string i, .string f, .string g, .string y, .int .i64 a, .int .i64 d, .string t] 85 (0, 0))).cell? ⟨w.heap.size + 1, 2, none⟩ = some (.string f) := by rw [cell_of_row _ _ _ _ _ _ HF26.out]; rfl
    have hc34 : w2.cell? ⟨w.heap.size + 1, 2, none⟩ = some (.string f) := by rw [cell_of_row _ _ _ _ _ _ HF15.out]; rfl
    have hc35 : (w2.alloc (.cells #[.int .i64 o, .string i, .string f, .string g, .string y, .int .i64 a, .int .i64 d, .string t] 85 (0, 0))).cell? ⟨w.heap.size + 1, 3, none⟩ = some (.string g) := by rw [cell_of_row _ _ _ _ _ _ HF26.out]; rfl
    have hc36 : w2.cell? ⟨w.heap.size + 1, 3, none⟩ = some (.string g) := by rw [cell_of_row _ _ _ _ _ _ HF15.out]; rfl
    have hc37 : (w2.alloc (.cells #[.int .i64 o, .string i, .string f, .string g, .string y, .int .i64 a, .int .i64 d, .string t] 85 (0, 0))).cell? ⟨w.heap.size + 1, 4, none⟩ = some (.string y) := by rw [cell_of_row _ _ _ _ _ _ HF26.out]; rfl
    have hc38 : w2.cell? ⟨w.heap.size + 1, 4, none⟩ = some (.string y) := by rw [cell_of_row _ _ _ _ _ _ HF15.out]; rfl
    have hc39 : (w2.alloc (.cells #[.int .i64 o, .string i, .string f, .string g, .string y, .int .i64 a, .int .i64 d, .string t] 85 (0, 0))).cell? ⟨w.heap.size + 1, 5, none⟩ = some (.int .i64 a) := by rw [cell_of_row _ _ _ _ _ _ HF26.out]; rfl
    have hc40 : w2.cell? ⟨w.heap.size + 1, 5, none⟩ = some (.int .i64 a) := by rw [cell_of_row _ _ _ _ _ _ HF15.out]; rfl
    have hc41 : (w2.alloc (.cells #[.int .i64 o, .string i, .string f, .string g, .string y, .int .i64 a, .int .i64 d, .string t] 85 (0, 0))).cell? ⟨w.heap.size + 1, 6, none⟩ = some (.int .i64 d) := by rw [cell_of_row _ _ _ _ _ _ HF26.out]; rfl
    have hc42 : w2.cell? ⟨w.heap.size + 1, 6, none⟩ = some (.int .i64 d) := by rw [cell_of_row _ _ _ _ _ _ HF15.out]; rfl
    have hc43 : (w2.alloc (.cells #[.int .i64 o, .string i, .string f, .string g, .string y, .int .i64 a, .int .i64 d, .string t] 85 (0, 0))).cell? ⟨w.heap.size + 1, 7, none⟩ = some (.string t) := by rw [cell_of_row _ _ _ _ _ _ HF26.out]; rfl
    have hc44 : w2.cell? ⟨w.heap.size + 1, 7, none⟩ = some (.string t) := by rw [cell_of_row _ _ _ _ _ _ HF15.out]; rfl
    have hl45 : w.heap.size + 1 < w2.heap.size := lt_of_block HF15.out
    have hl46 : ¬ w.heap.size + 1 = w2.heap.size := by omega
    go_wp2_with fail
    clear hc17 hc18 hc19 hc20 hc21 hc22 hc23 hc24 hc29 hc30 hc31 hc32 hc33 hc34 hc35 hc36 hc37 hc38 hc39 hc40 hc41 hc42 hc43 hc44 hl45 hl46
    refine (fewops_any _ 1 1 [(o, i, f, g, y, a, d, t)] (w2.alloc (.cells #[.int .i64 o, .string i, .string f, .string g, .string y, .int .i64 a, .int .i64 d, .string t] 85 (0, 0))) (rd_blk (f := opC) (s := 8) (fun _ => rfl) _ HF27.out rfl) (by unfold maxLen; omega)).mono ?_
    rintro e w3 ⟨b, rfl, -, hb3⟩
    have HF47 := Lib.hid (blk_below HF25.out hb3)
    have HF48 := Lib.hid (blk_below HF26.out hb3)
    have HF49 := Lib.hid (blk_below HF27.out hb3)
    have HB50 := Lib.hid (HB28.out.trans (hb3.mono (by have := HB28.out.size; simp at this ⊢ <;> omega)))
    clear hb3 HB28 HF25 HF14 HF26 HF15 HF27
    cases b with
    | false =>
      go_wp2_with fail
      refine (awake26 w3).mono ?_
      rintro e w4 ⟨rfl, hb4⟩
      have HF51 := Lib.hid (blk_below HF47.out hb4)
      have HF52 := Lib.hid (blk_below HF48.out hb4)
      have HF53 := Lib.hid (blk_below HF49.out hb4)
      have HB54 := Lib.hid (HB50.out.trans (hb4.mono HB50.out.size))
      clear hb4 HB50 HF47 HF48 HF49
      go_wp2_with fail
      go_ret
      exact ⟨rfl, HB54.out⟩
    | true =>
      have hc51 : w3.cell? ⟨w.heap.size + 1, 0, none⟩ = some (.int .i64 o) := by rw [cell_of_row _ _ _ _ _ _ HF48.out]; rfl
      have hc52 : w3.cell? ⟨w.heap.size + 1, 1, none⟩ = some (.string i) := by rw [cell_of_row _ _ _ _ _ _ HF48.out]; rfl
      have hc53 : w3.cell? ⟨w.heap.size + 1, 2, none⟩ = some (.string f) := by rw [cell_of_row _ _ _ _ _ _ HF48.out]; rfl
      have hc54 : w3.cell? ⟨w.heap.size + 1, 3, none⟩ = some (.string g) := by rw [cell_of_row _ _ _ _ _ _ HF48.out]; rfl
      have hc55 : w3.cell? ⟨w.heap.size + 1, 4, none⟩ = some (.string y) := by rw [cell_of_row _ _ _ _ _ _ HF48.out]; rfl
      have hc56 : w3.cell? ⟨w.heap.size + 1, 5, none⟩ = some (.int .i64 a) := by rw [cell_of_row _ _ _ _ _ _ HF48.out]; rfl
      have hc57 : w3.cell? ⟨w.heap.size + 1, 6, none⟩ = some (.int .i64 d) := by rw [cell_of_row _ _ _ _ _ _ HF48.out]; rfl
      have hc58 : w3.cell? ⟨w.heap.size + 1, 7, none⟩ = some (.string t) := by rw [cell_of_row _ _ _ _ _ _ HF48.out]; rfl
      go_wp2_with fail
      clear hc51 hc52 hc53 hc54 hc55 hc56 hc57 hc58
      refine (HRR.out w3).mono ?_
      rintro e w4 ⟨rfl, hb4⟩
      have HF59 := Lib.hid (blk_below HF47.out hb4)
      have HF60 := Lib.hid (blk_below HF48.out hb4)
      have HF61 := Lib.hid (blk_below HF49.out hb4)
      have HB62 := Lib.hid (HB50.out.trans (hb4.mono HB50.out.size))
      clear hb4 HB50 HF47 HF48 HF49
      have HOE : ((o == 7) = true ∧ Hid (∀ W, Calls Try.prog 49 #[.int .i64 o] W fun e w' => e = .returned (.bool true) ∧ W = w')) ∨
          ((o == 7) = false ∧ (o == 8) = true ∧ Hid (∀ W, Calls Try.prog 49 #[.int .i64 o] W fun e w' => e = .returned (.bool true) ∧ W = w')) ∨
          ((o == 7) = false ∧ (o == 8) = false ∧ (o == 11) = true ∧ Hid (∀ W, Calls Try.prog 49 #[.int .i64 o] W fun e w' => e = .returned (.bool true) ∧ W = w')) ∨
          ((o == 7) = false ∧ (o == 8) = false ∧ (o == 11) = false ∧ (o == 12) = true ∧ Hid (∀ W, Calls Try.prog 49 #[.int .i64 o] W fun e w' => e = .returned (.bool true) ∧ W = w')) ∨
          ((o == 7) = false ∧ (o == 8) = false ∧ (o == 11) = false ∧ (o == 12) = false ∧ Hid (∀ W, Calls Try.prog 49 #[.int .i64 o] W fun e w' => e = .returned (.bool false) ∧ W = w')) := by
        cases e7 : (o == 7) with
        | true => rw [show o = 7 by simpa using e7]; exact Or.inl ⟨rfl, Lib.hid fun W => ofedge_7 W⟩
        | false =>
          cases e8 : (o == 8) with
          | true => rw [show o = 8 by simpa using e8]; exact Or.inr (Or.inl ⟨rfl, rfl, Lib.hid fun W => ofedge_8 W⟩)
          | false =>
            cases e11 : (o == 11) with
            | true => rw [show o = 11 by simpa using e11]; exact Or.inr (Or.inr (Or.inl ⟨rfl, rfl, rfl, Lib.hid fun W => ofedge_11 W⟩))
            | false =>
              cases e12 : (o == 12) with
              | true => rw [show o = 12 by simpa using e12]; exact Or.inr (Or.inr (Or.inr (Or.inl ⟨rfl, rfl, rfl, rfl, Lib.hid fun W => ofedge_12 W⟩)))
              | false => exact Or.inr (Or.inr (Or.inr (Or.inr ⟨rfl, rfl, rfl, rfl, Lib.hid fun W => ofedge_no o W e7 e8 e11 e12⟩)))
      cases rb
      all_goals
        simp only [rightE, if_true, Bool.false_eq_true, if_false] at HGR
        rcases HOE with ⟨e7, HOE⟩ | ⟨e7, e8, HOE⟩ | ⟨e7, e8, e11, HOE⟩ | ⟨e7, e8, e11, e12, HOE⟩ | ⟨e7, e8, e11, e12, HOE⟩
        all_goals
          have hc63 : w4.cell? ⟨w.heap.size + 1, 0, none⟩ = some (.int .i64 o) := by rw [cell_of_row _ _ _ _ _ _ HF60.out]; rfl
          have hc64 : w4.cell? ⟨w.heap.size + 1, 1, none⟩ = some (.string i) := by rw [cell_of_row _ _ _ _ _ _ HF60.out]; rfl
          have hc65 : w4.cell? ⟨w.heap.size + 1, 2, none⟩ = some (.string f) := by rw [cell_of_row _ _ _ _ _ _ HF60.out]; rfl
          have hc66 : w4.cell? ⟨w.heap.size + 1, 3, none⟩ = some (.string g) := by rw [cell_of_row _ _ _ _ _ _ HF60.out]; rfl
          have hc67 : w4.cell? ⟨w.heap.size + 1, 4, none⟩ = some (.string y) := by rw [cell_of_row _ _ _ _ _ _ HF60.out]; rfl
          have hc68 : w4.cell? ⟨w.heap.size + 1, 5, none⟩ = some (.int .i64 a) := by rw [cell_of_row _ _ _ _ _ _ HF60.out]; rfl
          have hc69 : w4.cell? ⟨w.heap.size + 1, 6, none⟩ = some (.int .i64 d) := by rw [cell_of_row _ _ _ _ _ _ HF60.out]; rfl
          have hc70 : w4.cell? ⟨w.heap.size + 1, 7, none⟩ = some (.string t) := by rw [cell_of_row _ _ _ _ _ _ HF60.out]; rfl
          go_wp2_with fail
          have hr71 := fun d os => cell_regrown hc63 d os
          have hr72 := fun d os => cell_regrown hc64 d os
          have hr73 := fun d os => cell_regrown hc65 d os
          have hr74 := fun d os => cell_regrown hc66 d os
          have hr75 := fun d os => cell_regrown hc67 d os
          have hr76 := fun d os => cell_regrown hc68 d os
          have hr77 := fun d os => cell_regrown hc69 d os
          have hr78 := fun d os => cell_regrown hc70 d os
          refine wp_region_quiet_below (by kernel_rfl) (by kernel_rfl) ?_
          repeat (any_goals (first | go_big_quiet_step ((first | (go_at_call 48; with_reducible exact Calls.regrown_of (HGR.out _)) | (go_at_call 49; with_reducible exact Calls.regrown_of (of_same (HOE.out _))))) | quiet_step ((first | (go_at_call 48; with_reducible exact Calls.regrown_of (HGR.out _)) | (go_at_call 49; with_reducible exact Calls.regrown_of (of_same (HOE.out _)))))))
          refine wpQuiet_nil ?_
          intro w5 hw5
          have hb5 := below_anyY hw5
          clear hw5 hr71 hr72 hr73 hr74 hr75 hr76 hr77 hr78
          clear hc63 hc64 hc65 hc66 hc67 hc68 hc69 hc70
          have HF79 := Lib.hid (blk_below HF59.out hb5)
          have HF80 := Lib.hid (blk_below HF60.out hb5)
          have HF81 := Lib.hid (blk_below HF61.out hb5)
          have HB82 := Lib.hid (HB62.out.trans (hb5.mono HB62.out.size))
          clear hb5 HB62 HF59 HF60 HF61
          have hc83 : w5.cell? ⟨w.heap.size, 0, none⟩ = some (.slice A n c) := by rw [cell_of_row _ _ _ _ _ _ HF79.out]; rfl
          have hc84 : w5.cell? ⟨w.heap.size, 1, none⟩ = some (.slice A2 n2 c2) := by rw [cell_of_row _ _ _ _ _ _ HF79.out]; rfl
          go_wp2_with fail
          clear hc83 hc84
          go_loopw [62] (fun j wr => ∃ q : Nat, j = .int .i64 (q : Int) ∧ q ≤ n ∧ Below w.heap.size w wr ∧ wr.heap[w.heap.size + 1]? = some (.cells #[.int .i64 o, .string i, .string f, .string g, .string y, .int .i64 a, .int .i64 d, .string t] 85 (0, 0))) (fun j _ => n - (intOf j).toNat)
          case atStart => exact ⟨0, rfl, Nat.zero_le _, HB82.out, HF80.out⟩
          case round =>
            clear HOE HGR
            obtain ⟨q, rfl, hq, hb, ho⟩ := hrel
            have HB := Lib.hid hb
            have HO := Lib.hid ho
            clear hb ho
            by_cases hlt : q < n
            · have hd1 : decide ((q : Int) < (n : Int)) = true := decide_eq_true (by omega)
              have hi0 : (0 : Int) ≤ (q : Int) := by omega
              have hql : q < X.length := by have := HL.out.1; omega
              obtain ⟨x, hxx⟩ : ∃ x, x = X[q] := ⟨_, rfl⟩
              have HK := Lib.hid (show X[q]? = some x by rw [List.getElem?_eq_getElem hql, hxx])
              have hze := HZ.out x (by rw [hxx]; exact List.getElem_mem hql)
              clear hxx
              obtain ⟨b1, o1, L1, q1, r1, M1, rfl, x0, x1, x2, hp1, hc1, hc2⟩ := (H.out.below HB.out).nodeC hlt HK.out
              obtain ⟨i1, ss, ps⟩ := x
              dsimp only at x0 x1 x2 hp1 hc1 hc2
              have hrs := RsOk.of (nd_zero (show ndW i1 ss ps = 0 from hze)).2 rfl rfl hc1 hc2
              obtain ⟨SS, PS, z, HT1, HT2⟩ := HBT.out L1 M1 ss.length q1 ps.length r1 ss ps hrs
              have hzz : (z != z) = false := by simp
              have HP1 := Lib.hid hp1
              clear hp1 hc1 hc2 hrs hze
              generalize ss.length = ns at *
              generalize ps.length = np at *
              have HB0 := Lib.hid (Below.refl wr.heap.size wr)
              have hlo := lt_of_block HO.out
              have HF501 := Lib.hid (blk_alloc HO.out (.cells #[.string i1, .slice L1 ns q1, .slice M1 np r1] 45 (0, 0)))
              have HF502 := Lib.hid (blk_new wr (.cells #[.string i1, .slice L1 ns q1, .slice M1 np r1] 45 (0, 0)))
              have HB503 := Lib.hid (HB0.out.alloc HB0.out.size (.cells #[.string i1, .slice L1 ns q1, .slice M1 np r1] 45 (0, 0)))
              clear HB0
              have hc504 : (wr.alloc (.cells #[.string i1, .slice L1 ns q1, .slice M1 np r1] 45 (0, 0))).cell? ⟨wr.heap.size, 0, none⟩ = some (.string i1) := by rw [cell_of_row _ _ _ _ _ _ HF502.out]; rfl
              have hc505 : (wr.alloc (.cells #[.string i1, .slice L1 ns q1, .slice M1 np r1] 45 (0, 0))).cell? ⟨wr.heap.size, 1, none⟩ = some (.slice L1 ns q1) := by rw [cell_of_row _ _ _ _ _ _ HF502.out]; rfl
              have hc506 : (wr.alloc (.cells #[.string i1, .slice L1 ns q1, .slice M1 np r1] 45 (0, 0))).cell? ⟨wr.heap.size, 2, none⟩ = some (.slice M1 np r1) := by rw [cell_of_row _ _ _ _ _ _ HF502.out]; rfl
              have hc507 : (wr.alloc (.cells #[.string i1, .slice L1 ns q1, .slice M1 np r1] 45 (0, 0))).cell? ⟨w.heap.size + 1, 0, none⟩ = some (.int .i64 o) := by rw [cell_of_row _ _ _ _ _ _ HF501.out]; rfl
              have hc508 : wr.cell? ⟨w.heap.size + 1, 0, none⟩ = some (.int .i64 o) := by rw [cell_of_row _ _ _ _ _ _ HO.out]; rfl
              have hc509 : (wr.alloc (.cells #[.string i1, .slice L1 ns q1, .slice M1 np r1] 45 (0, 0))).cell? ⟨w.heap.size + 1, 1, none⟩ = some (.string i) := by rw [cell_of_row _ _ _ _ _ _ HF501.out]; rfl
              have hc510 : wr.cell? ⟨w.heap.size + 1, 1, none⟩ = some (.string i) := by rw [cell_of_row _ _ _ _ _ _ HO.out]; rfl
              have hc511 : (wr.alloc (.cells #[.string i1, .slice L1 ns q1, .slice M1 np r1] 45 (0, 0))).cell? ⟨w.heap.size + 1, 2, none⟩ = some (.string f) := by rw [cell_of_row _ _ _ _ _ _ HF501.out]; rfl
              have hc512 : wr.cell? ⟨w.heap.size + 1, 2, none⟩ = some (.string f) := by rw [cell_of_row _ _ _ _ _ _ HO.out]; rfl
              have hc513 : (wr.alloc (.cells #[.string i1, .slice L1 ns q1, .slice M1 np r1] 45 (0, 0))).cell? ⟨w.heap.size + 1, 3, none⟩ = some (.string g) := by rw [cell_of_row _ _ _ _ _ _ HF501.out]; rfl
              have hc514 : wr.cell? ⟨w.heap.size + 1, 3, none⟩ = some (.string g) := by rw [cell_of_row _ _ _ _ _ _ HO.out]; rfl
              have hc515 : (wr.alloc (.cells #[.string i1, .slice L1 ns q1, .slice M1 np r1] 45 (0, 0))).cell? ⟨w.heap.size + 1, 4, none⟩ = some (.string y) := by rw [cell_of_row _ _ _ _ _ _ HF501.out]; rfl
              have hc516 : wr.cell? ⟨w.heap.size + 1, 4, none⟩ = some (.string y) := by rw [cell_of_row _ _ _ _ _ _ HO.out]; rfl
              have hc517 : (wr.alloc (.cells #[.string i1, .slice L1 ns q1, .slice M1 np r1] 45 (0, 0))).cell? ⟨w.heap.size + 1, 5, none⟩ = some (.int .i64 a) := by rw [cell_of_row _ _ _ _ _ _ HF501.out]; rfl
              have hc518 : wr.cell? ⟨w.heap.size + 1, 5, none⟩ = some (.int .i64 a) := by rw [cell_of_row _ _ _ _ _ _ HO.out]; rfl
              have hc519 : (wr.alloc (.cells #[.string i1, .slice L1 ns q1, .slice M1 np r1] 45 (0, 0))).cell? ⟨w.heap.size + 1, 6, none⟩ = some (.int .i64 d) := by rw [cell_of_row _ _ _ _ _ _ HF501.out]; rfl
              have hc520 : wr.cell? ⟨w.heap.size + 1, 6, none⟩ = some (.int .i64 d) := by rw [cell_of_row _ _ _ _ _ _ HO.out]; rfl
              have hc521 : (wr.alloc (.cells #[.string i1, .slice L1 ns q1, .slice M1 np r1] 45 (0, 0))).cell? ⟨w.heap.size + 1, 7, none⟩ = some (.string t) := by rw [cell_of_row _ _ _ _ _ _ HF501.out]; rfl
              have hc522 : wr.cell? ⟨w.heap.size + 1, 7, none⟩ = some (.string t) := by rw [cell_of_row _ _ _ _ _ _ HO.out]; rfl
              have hl523 : w.heap.size + 1 < wr.heap.size := lt_of_block HO.out
              have hl524 : ¬ w.heap.size + 1 = wr.heap.size := by omega
              go_wp2_with fail
              clear hc504 hc505 hc506 hc507 hc508 hc509 hc510 hc511 hc512 hc513 hc514 hc515 hc516 hc517 hc518 hc519 hc520 hc521 hc522 hl523 hl524
              refine (HT1.out (wr.alloc (.cells #[.string i1, .slice L1 ns q1, .slice M1 np r1] 45 (0, 0))) (HP1.out.below HB503.out)).mono ?_
              rintro e w51 ⟨v1, v2, rfl, ht, hp, hb51⟩
              have HF525 := Lib.hid (blk_below HF501.out hb51)
              have HF526 := Lib.hid (blk_below HF502.out hb51)
              have HB527 := Lib.hid (HB503.out.trans (hb51.mono (by have := HB503.out.size; simp at this ⊢ <;> omega)))
              clear hb51 HB503 HF501 HO HF502
              have HS1 := Lib.hid ht
              have HV1 := Lib.hid hp
              clear ht hp x0 x1 x2
              have hc528 : w51.cell? ⟨wr.heap.size, 0, none⟩ = some (.string i1) := by rw [cell_of_row _ _ _ _ _ _ HF526.out]; rfl
              have hc529 : w51.cell? ⟨wr.heap.size, 1, none⟩ = some (.slice L1 ns q1) := by rw [cell_of_row _ _ _ _ _ _ HF526.out]; rfl
              have hc530 : w51.cell? ⟨wr.heap.size, 2, none⟩ = some (.slice M1 np r1) := by rw [cell_of_row _ _ _ _ _ _ HF526.out]; rfl
              have hc531 : w51.cell? ⟨w.heap.size + 1, 0, none⟩ = some (.int .i64 o) := by rw [cell_of_row _ _ _ _ _ _ HF525.out]; rfl
              have hc532 : w51.cell? ⟨w.heap.size + 1, 1, none⟩ = some (.string i) := by rw [cell_of_row _ _ _ _ _ _ HF525.out]; rfl
              have hc533 : w51.cell? ⟨w.heap.size + 1, 2, none⟩ = some (.string f) := by rw [cell_of_row _ _ _ _ _ _ HF525.out]; rfl
              have hc534 : w51.cell? ⟨w.heap.size + 1, 3, none⟩ = some (.string g) := by rw [cell_of_row _ _ _ _ _ _ HF525.out]; rfl
              have hc535 : w51.cell? ⟨w.heap.size + 1, 4, none⟩ = some (.string y) := by rw [cell_of_row _ _ _ _ _ _ HF525.out]; rfl
              have hc536 : w51.cell? ⟨w.heap.size + 1, 5, none⟩ = some (.int .i64 a) := by rw [cell_of_row _ _ _ _ _ _ HF525.out]; rfl
              have hc537 : w51.cell? ⟨w.heap.size + 1, 6, none⟩ = some (.int .i64 d) := by rw [cell_of_row _ _ _ _ _ _ HF525.out]; rfl
              have hc538 : w51.cell? ⟨w.heap.size + 1, 7, none⟩ = some (.string t) := by rw [cell_of_row _ _ _ _ _ _ HF525.out]; rfl
              go_wp2_with fail
              clear hc528 hc529 hc530 hc531 hc532 hc533 hc534 hc535 hc536 hc537 hc538
              refine (HT2.out w51 (HP1.out.below HB527.out)).mono ?_
              rintro e w52 ⟨v3, v4, rfl, ht, hp, hb52⟩
              have HF539 := Lib.hid (blk_below HF525.out hb52)
              have HF540 := Lib.hid (blk_below HF526.out hb52)
              have HB541 := Lib.hid (HB527.out.trans (hb52.mono (by have := HB527.out.size; simp at this ⊢ <;> omega)))
              have HS2 := Lib.hid (HS1.out.laterT hb52)
              have HV2 := Lib.hid (HV1.out.later hb52)
              clear hb52 HB527 HF525 HF526
              obtain ⟨s1, d1, rfl, hs1, _, _⟩ := HS2.out
              obtain ⟨s2, d2, rfl, hs2, _, _⟩ := ht
              obtain ⟨p1, d3, rfl, hp1, _, _⟩ := HV2.out
              obtain ⟨p2, d4, rfl, hp2, hpl, hpm⟩ := hp
              have HSa := Lib.hid hs1
              have HSb := Lib.hid hs2
              have HPa := Lib.hid hp1
              have HPb := Lib.hid hp2
              unfold maxLen at *
              have hsl : SS.length ≤ 9223372036854775807 := by omega
              have hpl2 : PS.length ≤ 9223372036854775807 := by omega
              clear hs1 hs2 hp1 hp2 HS1 HV1 HS2 HV2 hpl hpm
              generalize SS.length = nS at *
              generalize PS.length = nP at *
              go_wp2_with fail
              refine (stexts_yes s1 s2 nS d1 d2 SS w52 HSa.out HSb.out (by omega)).mono ?_
              rintro e w53 ⟨rfl, hb53⟩
              have HF542 := Lib.hid (blk_below HF539.out hb53)
              have HF543 := Lib.hid (blk_below HF540.out hb53)
              have HB544 := Lib.hid (HB541.out.trans (hb53.mono HB541.out.size))
              have HPc := Lib.hid (HPa.out.below hb53)
              have HPd := Lib.hid (HPb.out.below hb53)
              clear hb53 HB541 HF539 HF540
              go_wp2_with fail
              refine (sprops_yes p1 p2 nP d3 d4 PS w53 HPc.out HPd.out (by omega)).mono ?_
              rintro e w54 ⟨rfl, hb54⟩
              have HF545 := Lib.hid (blk_below HF542.out hb54)
              have HF546 := Lib.hid (blk_below HF543.out hb54)
              have HB547 := Lib.hid (HB544.out.trans (hb54.mono HB544.out.size))
              clear hb54 HB544 HF542 HF543
              go_wp2_with fail
              go_roundw
              case rel => exact ⟨q + 1, by go_num, by omega, HB.out.trans (HB547.out.mono HB.out.size), HF545.out⟩
              case measure => simp [intOf] <;> omega
            · have hd1 : decide ((q : Int) < (n : Int)) = false := decide_eq_false (by omega)
              go_wp2_with fail
              refine (awake26 wr).mono ?_
              rintro e w9 ⟨rfl, hb9⟩
              have HB9 := Lib.hid (HB.out.trans (hb9.mono HB.out.size))
              clear hb9
              go_wp2_with fail
              go_ret
              exact ⟨rfl, HB9.out⟩
end Go.Proofs.Ytjnichiblljmjaa.LGraphOps
