/- SeatTakes: the head of any sector, which of two counts, and the text at any sector's front, are the document's. Condition: the table of crc. -/
import Derived.Test.YtcgoegehgcecpaaDoorRows
import Derived.Test.YtcgoegehgcecpaaDoorYn
namespace Go.Proofs.YtcgoegehgcecpaaDoor.LSeatTakes
open Go.RowKit Vi Cm

theorem bareV_is (S : ByteArray) : ∃ u, bareV S = .tuple #[.string u, .int .i64 (if bareB S = true then 0 else 3)] ∧ rbareV S = .tuple #[.string u, .bool (bareB S)] := ⟨_, rfl, rfl⟩
set_option maxHeartbeats 4000000 in
set_option maxRecDepth 100000 in
theorem walk_few (S1 S2 : ByteArray) (w : World) (hT : Tab w) (h1 : S1.size ≤ 1000) (h2 : S2.size ≤ 1000) :
    Calls Tryd.prog 7 #[.string S1, .string S2] w fun e w' => e = .returned (.bool true) ∧ Below w.heap.size w w' := by
  have HT := Lib.hid hT
  have HA := Lib.hid (fun (W : World) (h : Tab W) => awake08 W h)
  have hd1 : decide ((1000 : Int) < (S1.size : Int)) = false := decide_eq_false (by omega)
  have hd2 : decide ((1000 : Int) < (S2.size : Int)) = false := decide_eq_false (by omega)
  obtain ⟨a, b, c, d, e1, k1⟩ := tkF_any S1 h1
  obtain ⟨a2, b2, c2, d2, e2, k2⟩ := tkF_any S2 h2
  obtain ⟨u, hu1, hu2⟩ := bareV_is S1
  have HB1 := Lib.hid (fun W : World => bare_any S1 W h1)
  have HB2 := Lib.hid (fun W : World => rbare_any S1 W h1)
  rw [hu1] at HB1
  rw [hu2] at HB2
  have HC1 := Lib.hid (fun (W : World) (h : Tab W) => choose_any S1 S2 _ _ _ _ _ _ _ _ _ _ k1 k2 W h)
  have HC2 := Lib.hid (fun W : World => rchoose_any S1 S2 _ _ _ _ _ _ _ _ _ _ k1 k2 W)
  unfold hv at HC1 HC2
  obtain ⟨t, ht⟩ : ∃ t, t = bst (a, b, c, d) (a2, b2, c2, d2) 2 := ⟨_, rfl⟩
  rw [← ht] at HC1 HC2
  clear ht
  obtain ⟨p, q, r, s⟩ := t
  dsimp only at HC1 HC2
  generalize chB (p, q, r, s) = cb at HC1 HC2
  have HT1 := Lib.hid k1.prog
  have HT2 := Lib.hid k1.ref
  have he : e1 = 0 ∨ e1 = 3 := by rcases k1.is with g | g; exact Or.inl g.1; exact Or.inr g.1
  clear k1 k2 hT h1 h2 hu1 hu2
  rcases he with rfl | rfl <;> cases hb : bareB S1
  · rw [hb] at HB1 HB2
    rw [show (if false = true then (0 : Int) else 3) = 3 from rfl] at HB1
    rw [show decide ((0 : Int) = 0) = true from rfl] at HT2
    clear hb
    have HB1 := Lib.hid (Below.refl w.heap.size w)
    go_enter Tryd.func7, Tryd.ntmps7
    go_wp2_with fail
    refine (HT1.out w (HT.out.later HB1.out)).mono ?_
    rintro e w1 ⟨rfl, hb1⟩
    have HB2 := Lib.hid (HB1.out.trans (hb1.mono HB1.out.size))
    clear hb1 HB1 
    have HF3 := Lib.hid (blk_new w1 (.cells #[.int .i64 a, .int .i64 b, .int .i64 c, .int .i64 d] 48 (0, 0)))
    have HB4 := Lib.hid (HB2.out.alloc HB2.out.size (.cells #[.int .i64 a, .int .i64 b, .int .i64 c, .int .i64 d] 48 (0, 0)))
    clear HB2
    go_wp2_with fail
    refine (HT2.out (w1.alloc (.cells #[.int .i64 a, .int .i64 b, .int .i64 c, .int .i64 d] 48 (0, 0)))).mono ?_
    rintro e w2 ⟨rfl, hb2⟩
    have HF5 := Lib.hid (blk_below HF3.out hb2)
    have HB6 := Lib.hid (HB4.out.trans (hb2.mono HB4.out.size))
    clear hb2 HB4 HF3
    have HF7 := Lib.hid (blk_alloc HF5.out (.cells #[.int .i64 a, .int .i64 b, .int .i64 c, .int .i64 d] 48 (0, 0)))
    have HF8 := Lib.hid (blk_new w2 (.cells #[.int .i64 a, .int .i64 b, .int .i64 c, .int .i64 d] 48 (0, 0)))
    have HB9 := Lib.hid (HB6.out.alloc HB6.out.size (.cells #[.int .i64 a, .int .i64 b, .int .i64 c, .int .i64 d] 48 (0, 0)))
    clear HB6
    go_wp2_with fail
    refine (HB1.out (w2.alloc (.cells #[.int .i64 a, .int .i64 b, .int .i64 c, .int .i64 d] 48 (0, 0)))).mono ?_
    rintro e w3 ⟨rfl, hb3⟩
    have HF10 := Lib.hid (blk_below HF7.out hb3)
    have HF11 := Lib.hid (blk_below HF8.out hb3)
    have HB12 := Lib.hid (HB9.out.trans (hb3.mono HB9.out.size))
    clear hb3 HB9 HF7 HF5 HF8
    go_wp2_with fail
    refine (HB2.out w3).mono ?_
    rintro e w4 ⟨rfl, hb4⟩
    have HF13 := Lib.hid (blk_below HF10.out hb4)
    have HF14 := Lib.hid (blk_below HF11.out hb4)
    have HB15 := Lib.hid (HB12.out.trans (hb4.mono HB12.out.size))
    clear hb4 HB12 HF10 HF11
    go_wp2_with fail
    refine (HC1.out w4 (HT.out.later HB15.out)).mono ?_
    rintro e w5 ⟨rfl, hb5⟩
    have HF16 := Lib.hid (blk_below HF13.out hb5)
    have HF17 := Lib.hid (blk_below HF14.out hb5)
    have HB18 := Lib.hid (HB15.out.trans (hb5.mono HB15.out.size))
    clear hb5 HB15 HF13 HF14
    have HF19 := Lib.hid (blk_alloc HF16.out (.cells #[.int .i64 p, .int .i64 q, .int .i64 r, .int .i64 s] 48 (0, 0)))
    have HF20 := Lib.hid (blk_alloc HF17.out (.cells #[.int .i64 p, .int .i64 q, .int .i64 r, .int .i64 s] 48 (0, 0)))
    have HF21 := Lib.hid (blk_new w5 (.cells #[.int .i64 p, .int .i64 q, .int .i64 r, .int .i64 s] 48 (0, 0)))
    have HB22 := Lib.hid (HB18.out.alloc HB18.out.size (.cells #[.int .i64 p, .int .i64 q, .int .i64 r, .int .i64 s] 48 (0, 0)))
    clear HB18
    go_wp2_with fail
    refine (HC2.out (w5.alloc (.cells #[.int .i64 p, .int .i64 q, .int .i64 r, .int .i64 s] 48 (0, 0)))).mono ?_
    rintro e w6 ⟨rfl, hb6⟩
    have HF23 := Lib.hid (blk_below HF19.out hb6)
    have HF24 := Lib.hid (blk_below HF20.out hb6)
    have HF25 := Lib.hid (blk_below HF21.out hb6)
    have HB26 := Lib.hid (HB22.out.trans (hb6.mono HB22.out.size))
    clear hb6 HB22 HF19 HF16 HF20 HF17 HF21
    have HF27 := Lib.hid (blk_alloc HF23.out (.cells #[.int .i64 p, .int .i64 q, .int .i64 r, .int .i64 s] 48 (0, 0)))
    have HF28 := Lib.hid (blk_alloc HF24.out (.cells #[.int .i64 p, .int .i64 q, .int .i64 r, .int .i64 s] 48 (0, 0)))
    have HF29 := Lib.hid (blk_alloc HF25.out (.cells #[.int .i64 p, .int .i64 q, .int .i64 r, .int .i64 s] 48 (0, 0)))
    have HF30 := Lib.hid (blk_new w6 (.cells #[.int .i64 p, .int .i64 q, .int .i64 r, .int .i64 s] 48 (0, 0)))
    have HB31 := Lib.hid (HB26.out.alloc HB26.out.size (.cells #[.int .i64 p, .int .i64 q, .int .i64 r, .int .i64 s] 48 (0, 0)))
    clear HB26
    have hc32 : (w6.alloc (.cells #[.int .i64 p, .int .i64 q, .int .i64 r, .int .i64 s] 48 (0, 0))).cell? ⟨w1.heap.size, 0, none⟩ = some (.int .i64 a) := by rw [cell_of_row _ _ _ _ _ _ HF27.out]; rfl
    have hc33 : w6.cell? ⟨w1.heap.size, 0, none⟩ = some (.int .i64 a) := by rw [cell_of_row _ _ _ _ _ _ HF23.out]; rfl
    have hc34 : (w6.alloc (.cells #[.int .i64 p, .int .i64 q, .int .i64 r, .int .i64 s] 48 (0, 0))).cell? ⟨w1.heap.size, 1, none⟩ = some (.int .i64 b) := by rw [cell_of_row _ _ _ _ _ _ HF27.out]; rfl
    have hc35 : w6.cell? ⟨w1.heap.size, 1, none⟩ = some (.int .i64 b) := by rw [cell_of_row _ _ _ _ _ _ HF23.out]; rfl
    have hc36 : (w6.alloc (.cells #[.int .i64 p, .int .i64 q, .int .i64 r, .int .i64 s] 48 (0, 0))).cell? ⟨w1.heap.size, 2, none⟩ = some (.int .i64 c) := by rw [cell_of_row _ _ _ _ _ _ HF27.out]; rfl
    have hc37 : w6.cell? ⟨w1.heap.size, 2, none⟩ = some (.int .i64 c) := by rw [cell_of_row _ _ _ _ _ _ HF23.out]; rfl
    have hc38 : (w6.alloc (.cells #[.int .i64 p, .int .i64 q, .int .i64 r, .int .i64 s] 48 (0, 0))).cell? ⟨w1.heap.size, 3, none⟩ = some (.int .i64 d) := by rw [cell_of_row _ _ _ _ _ _ HF27.out]; rfl
    have hc39 : w6.cell? ⟨w1.heap.size, 3, none⟩ = some (.int .i64 d) := by rw [cell_of_row _ _ _ _ _ _ HF23.out]; rfl
    have hl40 : w1.heap.size < w6.heap.size := lt_of_block HF23.out
    have hl41 : ¬ w1.heap.size = w6.heap.size := by omega
    have hc42 : (w6.alloc (.cells #[.int .i64 p, .int .i64 q, .int .i64 r, .int .i64 s] 48 (0, 0))).cell? ⟨w2.heap.size, 0, none⟩ = some (.int .i64 a) := by rw [cell_of_row _ _ _ _ _ _ HF28.out]; rfl
    have hc43 : w6.cell? ⟨w2.heap.size, 0, none⟩ = some (.int .i64 a) := by rw [cell_of_row _ _ _ _ _ _ HF24.out]; rfl
    have hc44 : (w6.alloc (.cells #[.int .i64 p, .int .i64 q, .int .i64 r, .int .i64 s] 48 (0, 0))).cell? ⟨w2.heap.size, 1, none⟩ = some (.int .i64 b) := by rw [cell_of_row _ _ _ _ _ _ HF28.out]; rfl
    have hc45 : w6.cell? ⟨w2.heap.size, 1, none⟩ = some (.int .i64 b) := by rw [cell_of_row _ _ _ _ _ _ HF24.out]; rfl
    have hc46 : (w6.alloc (.cells #[.int .i64 p, .int .i64 q, .int .i64 r, .int .i64 s] 48 (0, 0))).cell? ⟨w2.heap.size, 2, none⟩ = some (.int .i64 c) := by rw [cell_of_row _ _ _ _ _ _ HF28.out]; rfl
    have hc47 : w6.cell? ⟨w2.heap.size, 2, none⟩ = some (.int .i64 c) := by rw [cell_of_row _ _ _ _ _ _ HF24.out]; rfl
    have hc48 : (w6.alloc (.cells #[.int .i64 p, .int .i64 q, .int .i64 r, .int .i64 s] 48 (0, 0))).cell? ⟨w2.heap.size, 3, none⟩ = some (.int .i64 d) := by rw [cell_of_row _ _ _ _ _ _ HF28.out]; rfl
    have hc49 : w6.cell? ⟨w2.heap.size, 3, none⟩ = some (.int .i64 d) := by rw [cell_of_row _ _ _ _ _ _ HF24.out]; rfl
    have hl50 : w2.heap.size < w6.heap.size := lt_of_block HF24.out
    have hl51 : ¬ w2.heap.size = w6.heap.size := by omega
    have hc52 : (w6.alloc (.cells #[.int .i64 p, .int .i64 q, .int .i64 r, .int .i64 s] 48 (0, 0))).cell? ⟨w5.heap.size, 0, none⟩ = some (.int .i64 p) := by rw [cell_of_row _ _ _ _ _ _ HF29.out]; rfl
    have hc53 : w6.cell? ⟨w5.heap.size, 0, none⟩ = some (.int .i64 p) := by rw [cell_of_row _ _ _ _ _ _ HF25.out]; rfl
    have hc54 : (w6.alloc (.cells #[.int .i64 p, .int .i64 q, .int .i64 r, .int .i64 s] 48 (0, 0))).cell? ⟨w5.heap.size, 1, none⟩ = some (.int .i64 q) := by rw [cell_of_row _ _ _ _ _ _ HF29.out]; rfl
    have hc55 : w6.cell? ⟨w5.heap.size, 1, none⟩ = some (.int .i64 q) := by rw [cell_of_row _ _ _ _ _ _ HF25.out]; rfl
    have hc56 : (w6.alloc (.cells #[.int .i64 p, .int .i64 q, .int .i64 r, .int .i64 s] 48 (0, 0))).cell? ⟨w5.heap.size, 2, none⟩ = some (.int .i64 r) := by rw [cell_of_row _ _ _ _ _ _ HF29.out]; rfl
    have hc57 : w6.cell? ⟨w5.heap.size, 2, none⟩ = some (.int .i64 r) := by rw [cell_of_row _ _ _ _ _ _ HF25.out]; rfl
    have hc58 : (w6.alloc (.cells #[.int .i64 p, .int .i64 q, .int .i64 r, .int .i64 s] 48 (0, 0))).cell? ⟨w5.heap.size, 3, none⟩ = some (.int .i64 s) := by rw [cell_of_row _ _ _ _ _ _ HF29.out]; rfl
    have hc59 : w6.cell? ⟨w5.heap.size, 3, none⟩ = some (.int .i64 s) := by rw [cell_of_row _ _ _ _ _ _ HF25.out]; rfl
    have hl60 : w5.heap.size < w6.heap.size := lt_of_block HF25.out
    have hl61 : ¬ w5.heap.size = w6.heap.size := by omega
    go_wp2_with fail
    refine (HA.out (w6.alloc (.cells #[.int .i64 p, .int .i64 q, .int .i64 r, .int .i64 s] 48 (0, 0))) (HT.out.later HB31.out)).mono ?_
    rintro e w7 ⟨rfl, hb7⟩
    clear hc32 hc33 hc34 hc35 hc36 hc37 hc38 hc39 hl40 hl41 hc42 hc43 hc44 hc45 hc46 hc47 hc48 hc49 hl50 hl51 hc52 hc53 hc54 hc55 hc56 hc57 hc58 hc59 hl60 hl61
    have HF62 := Lib.hid (blk_below HF27.out hb7)
    have HF63 := Lib.hid (blk_below HF28.out hb7)
    have HF64 := Lib.hid (blk_below HF29.out hb7)
    have HF65 := Lib.hid (blk_below HF30.out hb7)
    have HB66 := Lib.hid (HB31.out.trans (hb7.mono HB31.out.size))
    clear hb7 HB31 HF27 HF23 HF28 HF24 HF29 HF25 HF30
    go_wp2_with fail
    go_ret
    exact ⟨rfl, HB66.out⟩
  · rw [hb] at HB1 HB2
    rw [show (if true = true then (0 : Int) else 3) = 0 from rfl] at HB1
    rw [show decide ((0 : Int) = 0) = true from rfl] at HT2
    clear hb
    have HB1 := Lib.hid (Below.refl w.heap.size w)
    go_enter Tryd.func7, Tryd.ntmps7
    go_wp2_with fail
    refine (HT1.out w (HT.out.later HB1.out)).mono ?_
    rintro e w1 ⟨rfl, hb1⟩
    have HB2 := Lib.hid (HB1.out.trans (hb1.mono HB1.out.size))
    clear hb1 HB1 
    have HF3 := Lib.hid (blk_new w1 (.cells #[.int .i64 a, .int .i64 b, .int .i64 c, .int .i64 d] 48 (0, 0)))
    have HB4 := Lib.hid (HB2.out.alloc HB2.out.size (.cells #[.int .i64 a, .int .i64 b, .int .i64 c, .int .i64 d] 48 (0, 0)))
    clear HB2
    go_wp2_with fail
    refine (HT2.out (w1.alloc (.cells #[.int .i64 a, .int .i64 b, .int .i64 c, .int .i64 d] 48 (0, 0)))).mono ?_
    rintro e w2 ⟨rfl, hb2⟩
    have HF5 := Lib.hid (blk_below HF3.out hb2)
    have HB6 := Lib.hid (HB4.out.trans (hb2.mono HB4.out.size))
    clear hb2 HB4 HF3
    have HF7 := Lib.hid (blk_alloc HF5.out (.cells #[.int .i64 a, .int .i64 b, .int .i64 c, .int .i64 d] 48 (0, 0)))
    have HF8 := Lib.hid (blk_new w2 (.cells #[.int .i64 a, .int .i64 b, .int .i64 c, .int .i64 d] 48 (0, 0)))
    have HB9 := Lib.hid (HB6.out.alloc HB6.out.size (.cells #[.int .i64 a, .int .i64 b, .int .i64 c, .int .i64 d] 48 (0, 0)))
    clear HB6
    go_wp2_with fail
    refine (HB1.out (w2.alloc (.cells #[.int .i64 a, .int .i64 b, .int .i64 c, .int .i64 d] 48 (0, 0)))).mono ?_
    rintro e w3 ⟨rfl, hb3⟩
    have HF10 := Lib.hid (blk_below HF7.out hb3)
    have HF11 := Lib.hid (blk_below HF8.out hb3)
    have HB12 := Lib.hid (HB9.out.trans (hb3.mono HB9.out.size))
    clear hb3 HB9 HF7 HF5 HF8
    go_wp2_with fail
    refine (HB2.out w3).mono ?_
    rintro e w4 ⟨rfl, hb4⟩
    have HF13 := Lib.hid (blk_below HF10.out hb4)
    have HF14 := Lib.hid (blk_below HF11.out hb4)
    have HB15 := Lib.hid (HB12.out.trans (hb4.mono HB12.out.size))
    clear hb4 HB12 HF10 HF11
    go_wp2_with fail
    refine (HC1.out w4 (HT.out.later HB15.out)).mono ?_
    rintro e w5 ⟨rfl, hb5⟩
    have HF16 := Lib.hid (blk_below HF13.out hb5)
    have HF17 := Lib.hid (blk_below HF14.out hb5)
    have HB18 := Lib.hid (HB15.out.trans (hb5.mono HB15.out.size))
    clear hb5 HB15 HF13 HF14
    have HF19 := Lib.hid (blk_alloc HF16.out (.cells #[.int .i64 p, .int .i64 q, .int .i64 r, .int .i64 s] 48 (0, 0)))
    have HF20 := Lib.hid (blk_alloc HF17.out (.cells #[.int .i64 p, .int .i64 q, .int .i64 r, .int .i64 s] 48 (0, 0)))
    have HF21 := Lib.hid (blk_new w5 (.cells #[.int .i64 p, .int .i64 q, .int .i64 r, .int .i64 s] 48 (0, 0)))
    have HB22 := Lib.hid (HB18.out.alloc HB18.out.size (.cells #[.int .i64 p, .int .i64 q, .int .i64 r, .int .i64 s] 48 (0, 0)))
    clear HB18
    go_wp2_with fail
    refine (HC2.out (w5.alloc (.cells #[.int .i64 p, .int .i64 q, .int .i64 r, .int .i64 s] 48 (0, 0)))).mono ?_
    rintro e w6 ⟨rfl, hb6⟩
    have HF23 := Lib.hid (blk_below HF19.out hb6)
    have HF24 := Lib.hid (blk_below HF20.out hb6)
    have HF25 := Lib.hid (blk_below HF21.out hb6)
    have HB26 := Lib.hid (HB22.out.trans (hb6.mono HB22.out.size))
    clear hb6 HB22 HF19 HF16 HF20 HF17 HF21
    have HF27 := Lib.hid (blk_alloc HF23.out (.cells #[.int .i64 p, .int .i64 q, .int .i64 r, .int .i64 s] 48 (0, 0)))
    have HF28 := Lib.hid (blk_alloc HF24.out (.cells #[.int .i64 p, .int .i64 q, .int .i64 r, .int .i64 s] 48 (0, 0)))
    have HF29 := Lib.hid (blk_alloc HF25.out (.cells #[.int .i64 p, .int .i64 q, .int .i64 r, .int .i64 s] 48 (0, 0)))
    have HF30 := Lib.hid (blk_new w6 (.cells #[.int .i64 p, .int .i64 q, .int .i64 r, .int .i64 s] 48 (0, 0)))
    have HB31 := Lib.hid (HB26.out.alloc HB26.out.size (.cells #[.int .i64 p, .int .i64 q, .int .i64 r, .int .i64 s] 48 (0, 0)))
    clear HB26
    have hc32 : (w6.alloc (.cells #[.int .i64 p, .int .i64 q, .int .i64 r, .int .i64 s] 48 (0, 0))).cell? ⟨w1.heap.size, 0, none⟩ = some (.int .i64 a) := by rw [cell_of_row _ _ _ _ _ _ HF27.out]; rfl
    have hc33 : w6.cell? ⟨w1.heap.size, 0, none⟩ = some (.int .i64 a) := by rw [cell_of_row _ _ _ _ _ _ HF23.out]; rfl
    have hc34 : (w6.alloc (.cells #[.int .i64 p, .int .i64 q, .int .i64 r, .int .i64 s] 48 (0, 0))).cell? ⟨w1.heap.size, 1, none⟩ = some (.int .i64 b) := by rw [cell_of_row _ _ _ _ _ _ HF27.out]; rfl
    have hc35 : w6.cell? ⟨w1.heap.size, 1, none⟩ = some (.int .i64 b) := by rw [cell_of_row _ _ _ _ _ _ HF23.out]; rfl
    have hc36 : (w6.alloc (.cells #[.int .i64 p, .int .i64 q, .int .i64 r, .int .i64 s] 48 (0, 0))).cell? ⟨w1.heap.size, 2, none⟩ = some (.int .i64 c) := by rw [cell_of_row _ _ _ _ _ _ HF27.out]; rfl
    have hc37 : w6.cell? ⟨w1.heap.size, 2, none⟩ = some (.int .i64 c) := by rw [cell_of_row _ _ _ _ _ _ HF23.out]; rfl
    have hc38 : (w6.alloc (.cells #[.int .i64 p, .int .i64 q, .int .i64 r, .int .i64 s] 48 (0, 0))).cell? ⟨w1.heap.size, 3, none⟩ = some (.int .i64 d) := by rw [cell_of_row _ _ _ _ _ _ HF27.out]; rfl
    have hc39 : w6.cell? ⟨w1.heap.size, 3, none⟩ = some (.int .i64 d) := by rw [cell_of_row _ _ _ _ _ _ HF23.out]; rfl
    have hl40 : w1.heap.size < w6.heap.size := lt_of_block HF23.out
    have hl41 : ¬ w1.heap.size = w6.heap.size := by omega
    have hc42 : (w6.alloc (.cells #[.int .i64 p, .int .i64 q, .int .i64 r, .int .i64 s] 48 (0, 0))).cell? ⟨w2.heap.size, 0, none⟩ = some (.int .i64 a) := by rw [cell_of_row _ _ _ _ _ _ HF28.out]; rfl
    have hc43 : w6.cell? ⟨w2.heap.size, 0, none⟩ = some (.int .i64 a) := by rw [cell_of_row _ _ _ _ _ _ HF24.out]; rfl
    have hc44 : (w6.alloc (.cells #[.int .i64 p, .int .i64 q, .int .i64 r, .int .i64 s] 48 (0, 0))).cell? ⟨w2.heap.size, 1, none⟩ = some (.int .i64 b) := by rw [cell_of_row _ _ _ _ _ _ HF28.out]; rfl
    have hc45 : w6.cell? ⟨w2.heap.size, 1, none⟩ = some (.int .i64 b) := by rw [cell_of_row _ _ _ _ _ _ HF24.out]; rfl
    have hc46 : (w6.alloc (.cells #[.int .i64 p, .int .i64 q, .int .i64 r, .int .i64 s] 48 (0, 0))).cell? ⟨w2.heap.size, 2, none⟩ = some (.int .i64 c) := by rw [cell_of_row _ _ _ _ _ _ HF28.out]; rfl
    have hc47 : w6.cell? ⟨w2.heap.size, 2, none⟩ = some (.int .i64 c) := by rw [cell_of_row _ _ _ _ _ _ HF24.out]; rfl
    have hc48 : (w6.alloc (.cells #[.int .i64 p, .int .i64 q, .int .i64 r, .int .i64 s] 48 (0, 0))).cell? ⟨w2.heap.size, 3, none⟩ = some (.int .i64 d) := by rw [cell_of_row _ _ _ _ _ _ HF28.out]; rfl
    have hc49 : w6.cell? ⟨w2.heap.size, 3, none⟩ = some (.int .i64 d) := by rw [cell_of_row _ _ _ _ _ _ HF24.out]; rfl
    have hl50 : w2.heap.size < w6.heap.size := lt_of_block HF24.out
    have hl51 : ¬ w2.heap.size = w6.heap.size := by omega
    have hc52 : (w6.alloc (.cells #[.int .i64 p, .int .i64 q, .int .i64 r, .int .i64 s] 48 (0, 0))).cell? ⟨w5.heap.size, 0, none⟩ = some (.int .i64 p) := by rw [cell_of_row _ _ _ _ _ _ HF29.out]; rfl
    have hc53 : w6.cell? ⟨w5.heap.size, 0, none⟩ = some (.int .i64 p) := by rw [cell_of_row _ _ _ _ _ _ HF25.out]; rfl
    have hc54 : (w6.alloc (.cells #[.int .i64 p, .int .i64 q, .int .i64 r, .int .i64 s] 48 (0, 0))).cell? ⟨w5.heap.size, 1, none⟩ = some (.int .i64 q) := by rw [cell_of_row _ _ _ _ _ _ HF29.out]; rfl
    have hc55 : w6.cell? ⟨w5.heap.size, 1, none⟩ = some (.int .i64 q) := by rw [cell_of_row _ _ _ _ _ _ HF25.out]; rfl
    have hc56 : (w6.alloc (.cells #[.int .i64 p, .int .i64 q, .int .i64 r, .int .i64 s] 48 (0, 0))).cell? ⟨w5.heap.size, 2, none⟩ = some (.int .i64 r) := by rw [cell_of_row _ _ _ _ _ _ HF29.out]; rfl
    have hc57 : w6.cell? ⟨w5.heap.size, 2, none⟩ = some (.int .i64 r) := by rw [cell_of_row _ _ _ _ _ _ HF25.out]; rfl
    have hc58 : (w6.alloc (.cells #[.int .i64 p, .int .i64 q, .int .i64 r, .int .i64 s] 48 (0, 0))).cell? ⟨w5.heap.size, 3, none⟩ = some (.int .i64 s) := by rw [cell_of_row _ _ _ _ _ _ HF29.out]; rfl
    have hc59 : w6.cell? ⟨w5.heap.size, 3, none⟩ = some (.int .i64 s) := by rw [cell_of_row _ _ _ _ _ _ HF25.out]; rfl
    have hl60 : w5.heap.size < w6.heap.size := lt_of_block HF25.out
    have hl61 : ¬ w5.heap.size = w6.heap.size := by omega
    go_wp2_with fail
    refine (HA.out (w6.alloc (.cells #[.int .i64 p, .int .i64 q, .int .i64 r, .int .i64 s] 48 (0, 0))) (HT.out.later HB31.out)).mono ?_
    rintro e w7 ⟨rfl, hb7⟩
    clear hc32 hc33 hc34 hc35 hc36 hc37 hc38 hc39 hl40 hl41 hc42 hc43 hc44 hc45 hc46 hc47 hc48 hc49 hl50 hl51 hc52 hc53 hc54 hc55 hc56 hc57 hc58 hc59 hl60 hl61
    have HF62 := Lib.hid (blk_below HF27.out hb7)
    have HF63 := Lib.hid (blk_below HF28.out hb7)
    have HF64 := Lib.hid (blk_below HF29.out hb7)
    have HF65 := Lib.hid (blk_below HF30.out hb7)
    have HB66 := Lib.hid (HB31.out.trans (hb7.mono HB31.out.size))
    clear hb7 HB31 HF27 HF23 HF28 HF24 HF29 HF25 HF30
    go_wp2_with fail
    go_ret
    exact ⟨rfl, HB66.out⟩
  · rw [hb] at HB1 HB2
    rw [show (if false = true then (0 : Int) else 3) = 3 from rfl] at HB1
    rw [show decide ((3 : Int) = 0) = false from rfl] at HT2
    clear hb
    have HB1 := Lib.hid (Below.refl w.heap.size w)
    go_enter Tryd.func7, Tryd.ntmps7
    go_wp2_with fail
    refine (HT1.out w (HT.out.later HB1.out)).mono ?_
    rintro e w1 ⟨rfl, hb1⟩
    have HB2 := Lib.hid (HB1.out.trans (hb1.mono HB1.out.size))
    clear hb1 HB1 
    have HF3 := Lib.hid (blk_new w1 (.cells #[.int .i64 a, .int .i64 b, .int .i64 c, .int .i64 d] 48 (0, 0)))
    have HB4 := Lib.hid (HB2.out.alloc HB2.out.size (.cells #[.int .i64 a, .int .i64 b, .int .i64 c, .int .i64 d] 48 (0, 0)))
    clear HB2
    go_wp2_with fail
    refine (HT2.out (w1.alloc (.cells #[.int .i64 a, .int .i64 b, .int .i64 c, .int .i64 d] 48 (0, 0)))).mono ?_
    rintro e w2 ⟨rfl, hb2⟩
    have HF5 := Lib.hid (blk_below HF3.out hb2)
    have HB6 := Lib.hid (HB4.out.trans (hb2.mono HB4.out.size))
    clear hb2 HB4 HF3
    have HF7 := Lib.hid (blk_alloc HF5.out (.cells #[.int .i64 a, .int .i64 b, .int .i64 c, .int .i64 d] 48 (0, 0)))
    have HF8 := Lib.hid (blk_new w2 (.cells #[.int .i64 a, .int .i64 b, .int .i64 c, .int .i64 d] 48 (0, 0)))
    have HB9 := Lib.hid (HB6.out.alloc HB6.out.size (.cells #[.int .i64 a, .int .i64 b, .int .i64 c, .int .i64 d] 48 (0, 0)))
    clear HB6
    go_wp2_with fail
    refine (HB1.out (w2.alloc (.cells #[.int .i64 a, .int .i64 b, .int .i64 c, .int .i64 d] 48 (0, 0)))).mono ?_
    rintro e w3 ⟨rfl, hb3⟩
    have HF10 := Lib.hid (blk_below HF7.out hb3)
    have HF11 := Lib.hid (blk_below HF8.out hb3)
    have HB12 := Lib.hid (HB9.out.trans (hb3.mono HB9.out.size))
    clear hb3 HB9 HF7 HF5 HF8
    go_wp2_with fail
    refine (HB2.out w3).mono ?_
    rintro e w4 ⟨rfl, hb4⟩
    have HF13 := Lib.hid (blk_below HF10.out hb4)
    have HF14 := Lib.hid (blk_below HF11.out hb4)
    have HB15 := Lib.hid (HB12.out.trans (hb4.mono HB12.out.size))
    clear hb4 HB12 HF10 HF11
    go_wp2_with fail
    refine (HC1.out w4 (HT.out.later HB15.out)).mono ?_
    rintro e w5 ⟨rfl, hb5⟩
    have HF16 := Lib.hid (blk_below HF13.out hb5)
    have HF17 := Lib.hid (blk_below HF14.out hb5)
    have HB18 := Lib.hid (HB15.out.trans (hb5.mono HB15.out.size))
    clear hb5 HB15 HF13 HF14
    have HF19 := Lib.hid (blk_alloc HF16.out (.cells #[.int .i64 p, .int .i64 q, .int .i64 r, .int .i64 s] 48 (0, 0)))
    have HF20 := Lib.hid (blk_alloc HF17.out (.cells #[.int .i64 p, .int .i64 q, .int .i64 r, .int .i64 s] 48 (0, 0)))
    have HF21 := Lib.hid (blk_new w5 (.cells #[.int .i64 p, .int .i64 q, .int .i64 r, .int .i64 s] 48 (0, 0)))
    have HB22 := Lib.hid (HB18.out.alloc HB18.out.size (.cells #[.int .i64 p, .int .i64 q, .int .i64 r, .int .i64 s] 48 (0, 0)))
    clear HB18
    go_wp2_with fail
    refine (HC2.out (w5.alloc (.cells #[.int .i64 p, .int .i64 q, .int .i64 r, .int .i64 s] 48 (0, 0)))).mono ?_
    rintro e w6 ⟨rfl, hb6⟩
    have HF23 := Lib.hid (blk_below HF19.out hb6)
    have HF24 := Lib.hid (blk_below HF20.out hb6)
    have HF25 := Lib.hid (blk_below HF21.out hb6)
    have HB26 := Lib.hid (HB22.out.trans (hb6.mono HB22.out.size))
    clear hb6 HB22 HF19 HF16 HF20 HF17 HF21
    have HF27 := Lib.hid (blk_alloc HF23.out (.cells #[.int .i64 p, .int .i64 q, .int .i64 r, .int .i64 s] 48 (0, 0)))
    have HF28 := Lib.hid (blk_alloc HF24.out (.cells #[.int .i64 p, .int .i64 q, .int .i64 r, .int .i64 s] 48 (0, 0)))
    have HF29 := Lib.hid (blk_alloc HF25.out (.cells #[.int .i64 p, .int .i64 q, .int .i64 r, .int .i64 s] 48 (0, 0)))
    have HF30 := Lib.hid (blk_new w6 (.cells #[.int .i64 p, .int .i64 q, .int .i64 r, .int .i64 s] 48 (0, 0)))
    have HB31 := Lib.hid (HB26.out.alloc HB26.out.size (.cells #[.int .i64 p, .int .i64 q, .int .i64 r, .int .i64 s] 48 (0, 0)))
    clear HB26
    have hc32 : (w6.alloc (.cells #[.int .i64 p, .int .i64 q, .int .i64 r, .int .i64 s] 48 (0, 0))).cell? ⟨w1.heap.size, 0, none⟩ = some (.int .i64 a) := by rw [cell_of_row _ _ _ _ _ _ HF27.out]; rfl
    have hc33 : w6.cell? ⟨w1.heap.size, 0, none⟩ = some (.int .i64 a) := by rw [cell_of_row _ _ _ _ _ _ HF23.out]; rfl
    have hc34 : (w6.alloc (.cells #[.int .i64 p, .int .i64 q, .int .i64 r, .int .i64 s] 48 (0, 0))).cell? ⟨w1.heap.size, 1, none⟩ = some (.int .i64 b) := by rw [cell_of_row _ _ _ _ _ _ HF27.out]; rfl
    have hc35 : w6.cell? ⟨w1.heap.size, 1, none⟩ = some (.int .i64 b) := by rw [cell_of_row _ _ _ _ _ _ HF23.out]; rfl
    have hc36 : (w6.alloc (.cells #[.int .i64 p, .int .i64 q, .int .i64 r, .int .i64 s] 48 (0, 0))).cell? ⟨w1.heap.size, 2, none⟩ = some (.int .i64 c) := by rw [cell_of_row _ _ _ _ _ _ HF27.out]; rfl
    have hc37 : w6.cell? ⟨w1.heap.size, 2, none⟩ = some (.int .i64 c) := by rw [cell_of_row _ _ _ _ _ _ HF23.out]; rfl
    have hc38 : (w6.alloc (.cells #[.int .i64 p, .int .i64 q, .int .i64 r, .int .i64 s] 48 (0, 0))).cell? ⟨w1.heap.size, 3, none⟩ = some (.int .i64 d) := by rw [cell_of_row _ _ _ _ _ _ HF27.out]; rfl
    have hc39 : w6.cell? ⟨w1.heap.size, 3, none⟩ = some (.int .i64 d) := by rw [cell_of_row _ _ _ _ _ _ HF23.out]; rfl
    have hl40 : w1.heap.size < w6.heap.size := lt_of_block HF23.out
    have hl41 : ¬ w1.heap.size = w6.heap.size := by omega
    have hc42 : (w6.alloc (.cells #[.int .i64 p, .int .i64 q, .int .i64 r, .int .i64 s] 48 (0, 0))).cell? ⟨w2.heap.size, 0, none⟩ = some (.int .i64 a) := by rw [cell_of_row _ _ _ _ _ _ HF28.out]; rfl
    have hc43 : w6.cell? ⟨w2.heap.size, 0, none⟩ = some (.int .i64 a) := by rw [cell_of_row _ _ _ _ _ _ HF24.out]; rfl
    have hc44 : (w6.alloc (.cells #[.int .i64 p, .int .i64 q, .int .i64 r, .int .i64 s] 48 (0, 0))).cell? ⟨w2.heap.size, 1, none⟩ = some (.int .i64 b) := by rw [cell_of_row _ _ _ _ _ _ HF28.out]; rfl
    have hc45 : w6.cell? ⟨w2.heap.size, 1, none⟩ = some (.int .i64 b) := by rw [cell_of_row _ _ _ _ _ _ HF24.out]; rfl
    have hc46 : (w6.alloc (.cells #[.int .i64 p, .int .i64 q, .int .i64 r, .int .i64 s] 48 (0, 0))).cell? ⟨w2.heap.size, 2, none⟩ = some (.int .i64 c) := by rw [cell_of_row _ _ _ _ _ _ HF28.out]; rfl
    have hc47 : w6.cell? ⟨w2.heap.size, 2, none⟩ = some (.int .i64 c) := by rw [cell_of_row _ _ _ _ _ _ HF24.out]; rfl
    have hc48 : (w6.alloc (.cells #[.int .i64 p, .int .i64 q, .int .i64 r, .int .i64 s] 48 (0, 0))).cell? ⟨w2.heap.size, 3, none⟩ = some (.int .i64 d) := by rw [cell_of_row _ _ _ _ _ _ HF28.out]; rfl
    have hc49 : w6.cell? ⟨w2.heap.size, 3, none⟩ = some (.int .i64 d) := by rw [cell_of_row _ _ _ _ _ _ HF24.out]; rfl
    have hl50 : w2.heap.size < w6.heap.size := lt_of_block HF24.out
    have hl51 : ¬ w2.heap.size = w6.heap.size := by omega
    have hc52 : (w6.alloc (.cells #[.int .i64 p, .int .i64 q, .int .i64 r, .int .i64 s] 48 (0, 0))).cell? ⟨w5.heap.size, 0, none⟩ = some (.int .i64 p) := by rw [cell_of_row _ _ _ _ _ _ HF29.out]; rfl
    have hc53 : w6.cell? ⟨w5.heap.size, 0, none⟩ = some (.int .i64 p) := by rw [cell_of_row _ _ _ _ _ _ HF25.out]; rfl
    have hc54 : (w6.alloc (.cells #[.int .i64 p, .int .i64 q, .int .i64 r, .int .i64 s] 48 (0, 0))).cell? ⟨w5.heap.size, 1, none⟩ = some (.int .i64 q) := by rw [cell_of_row _ _ _ _ _ _ HF29.out]; rfl
    have hc55 : w6.cell? ⟨w5.heap.size, 1, none⟩ = some (.int .i64 q) := by rw [cell_of_row _ _ _ _ _ _ HF25.out]; rfl
    have hc56 : (w6.alloc (.cells #[.int .i64 p, .int .i64 q, .int .i64 r, .int .i64 s] 48 (0, 0))).cell? ⟨w5.heap.size, 2, none⟩ = some (.int .i64 r) := by rw [cell_of_row _ _ _ _ _ _ HF29.out]; rfl
    have hc57 : w6.cell? ⟨w5.heap.size, 2, none⟩ = some (.int .i64 r) := by rw [cell_of_row _ _ _ _ _ _ HF25.out]; rfl
    have hc58 : (w6.alloc (.cells #[.int .i64 p, .int .i64 q, .int .i64 r, .int .i64 s] 48 (0, 0))).cell? ⟨w5.heap.size, 3, none⟩ = some (.int .i64 s) := by rw [cell_of_row _ _ _ _ _ _ HF29.out]; rfl
    have hc59 : w6.cell? ⟨w5.heap.size, 3, none⟩ = some (.int .i64 s) := by rw [cell_of_row _ _ _ _ _ _ HF25.out]; rfl
    have hl60 : w5.heap.size < w6.heap.size := lt_of_block HF25.out
    have hl61 : ¬ w5.heap.size = w6.heap.size := by omega
    go_wp2_with fail
    refine (HA.out (w6.alloc (.cells #[.int .i64 p, .int .i64 q, .int .i64 r, .int .i64 s] 48 (0, 0))) (HT.out.later HB31.out)).mono ?_
    rintro e w7 ⟨rfl, hb7⟩
    clear hc32 hc33 hc34 hc35 hc36 hc37 hc38 hc39 hl40 hl41 hc42 hc43 hc44 hc45 hc46 hc47 hc48 hc49 hl50 hl51 hc52 hc53 hc54 hc55 hc56 hc57 hc58 hc59 hl60 hl61
    have HF62 := Lib.hid (blk_below HF27.out hb7)
    have HF63 := Lib.hid (blk_below HF28.out hb7)
    have HF64 := Lib.hid (blk_below HF29.out hb7)
    have HF65 := Lib.hid (blk_below HF30.out hb7)
    have HB66 := Lib.hid (HB31.out.trans (hb7.mono HB31.out.size))
    clear hb7 HB31 HF27 HF23 HF28 HF24 HF29 HF25 HF30
    go_wp2_with fail
    go_ret
    exact ⟨rfl, HB66.out⟩
  · rw [hb] at HB1 HB2
    rw [show (if true = true then (0 : Int) else 3) = 0 from rfl] at HB1
    rw [show decide ((3 : Int) = 0) = false from rfl] at HT2
    clear hb
    have HB1 := Lib.hid (Below.refl w.heap.size w)
    go_enter Tryd.func7, Tryd.ntmps7
    go_wp2_with fail
    refine (HT1.out w (HT.out.later HB1.out)).mono ?_
    rintro e w1 ⟨rfl, hb1⟩
    have HB2 := Lib.hid (HB1.out.trans (hb1.mono HB1.out.size))
    clear hb1 HB1 
    have HF3 := Lib.hid (blk_new w1 (.cells #[.int .i64 a, .int .i64 b, .int .i64 c, .int .i64 d] 48 (0, 0)))
    have HB4 := Lib.hid (HB2.out.alloc HB2.out.size (.cells #[.int .i64 a, .int .i64 b, .int .i64 c, .int .i64 d] 48 (0, 0)))
    clear HB2
    go_wp2_with fail
    refine (HT2.out (w1.alloc (.cells #[.int .i64 a, .int .i64 b, .int .i64 c, .int .i64 d] 48 (0, 0)))).mono ?_
    rintro e w2 ⟨rfl, hb2⟩
    have HF5 := Lib.hid (blk_below HF3.out hb2)
    have HB6 := Lib.hid (HB4.out.trans (hb2.mono HB4.out.size))
    clear hb2 HB4 HF3
    have HF7 := Lib.hid (blk_alloc HF5.out (.cells #[.int .i64 a, .int .i64 b, .int .i64 c, .int .i64 d] 48 (0, 0)))
    have HF8 := Lib.hid (blk_new w2 (.cells #[.int .i64 a, .int .i64 b, .int .i64 c, .int .i64 d] 48 (0, 0)))
    have HB9 := Lib.hid (HB6.out.alloc HB6.out.size (.cells #[.int .i64 a, .int .i64 b, .int .i64 c, .int .i64 d] 48 (0, 0)))
    clear HB6
    go_wp2_with fail
    refine (HB1.out (w2.alloc (.cells #[.int .i64 a, .int .i64 b, .int .i64 c, .int .i64 d] 48 (0, 0)))).mono ?_
    rintro e w3 ⟨rfl, hb3⟩
    have HF10 := Lib.hid (blk_below HF7.out hb3)
    have HF11 := Lib.hid (blk_below HF8.out hb3)
    have HB12 := Lib.hid (HB9.out.trans (hb3.mono HB9.out.size))
    clear hb3 HB9 HF7 HF5 HF8
    go_wp2_with fail
    refine (HB2.out w3).mono ?_
    rintro e w4 ⟨rfl, hb4⟩
    have HF13 := Lib.hid (blk_below HF10.out hb4)
    have HF14 := Lib.hid (blk_below HF11.out hb4)
    have HB15 := Lib.hid (HB12.out.trans (hb4.mono HB12.out.size))
    clear hb4 HB12 HF10 HF11
    go_wp2_with fail
    refine (HC1.out w4 (HT.out.later HB15.out)).mono ?_
    rintro e w5 ⟨rfl, hb5⟩
    have HF16 := Lib.hid (blk_below HF13.out hb5)
    have HF17 := Lib.hid (blk_below HF14.out hb5)
    have HB18 := Lib.hid (HB15.out.trans (hb5.mono HB15.out.size))
    clear hb5 HB15 HF13 HF14
    have HF19 := Lib.hid (blk_alloc HF16.out (.cells #[.int .i64 p, .int .i64 q, .int .i64 r, .int .i64 s] 48 (0, 0)))
    have HF20 := Lib.hid (blk_alloc HF17.out (.cells #[.int .i64 p, .int .i64 q, .int .i64 r, .int .i64 s] 48 (0, 0)))
    have HF21 := Lib.hid (blk_new w5 (.cells #[.int .i64 p, .int .i64 q, .int .i64 r, .int .i64 s] 48 (0, 0)))
    have HB22 := Lib.hid (HB18.out.alloc HB18.out.size (.cells #[.int .i64 p, .int .i64 q, .int .i64 r, .int .i64 s] 48 (0, 0)))
    clear HB18
    go_wp2_with fail
    refine (HC2.out (w5.alloc (.cells #[.int .i64 p, .int .i64 q, .int .i64 r, .int .i64 s] 48 (0, 0)))).mono ?_
    rintro e w6 ⟨rfl, hb6⟩
    have HF23 := Lib.hid (blk_below HF19.out hb6)
    have HF24 := Lib.hid (blk_below HF20.out hb6)
    have HF25 := Lib.hid (blk_below HF21.out hb6)
    have HB26 := Lib.hid (HB22.out.trans (hb6.mono HB22.out.size))
    clear hb6 HB22 HF19 HF16 HF20 HF17 HF21
    have HF27 := Lib.hid (blk_alloc HF23.out (.cells #[.int .i64 p, .int .i64 q, .int .i64 r, .int .i64 s] 48 (0, 0)))
    have HF28 := Lib.hid (blk_alloc HF24.out (.cells #[.int .i64 p, .int .i64 q, .int .i64 r, .int .i64 s] 48 (0, 0)))
    have HF29 := Lib.hid (blk_alloc HF25.out (.cells #[.int .i64 p, .int .i64 q, .int .i64 r, .int .i64 s] 48 (0, 0)))
    have HF30 := Lib.hid (blk_new w6 (.cells #[.int .i64 p, .int .i64 q, .int .i64 r, .int .i64 s] 48 (0, 0)))
    have HB31 := Lib.hid (HB26.out.alloc HB26.out.size (.cells #[.int .i64 p, .int .i64 q, .int .i64 r, .int .i64 s] 48 (0, 0)))
    clear HB26
    have hc32 : (w6.alloc (.cells #[.int .i64 p, .int .i64 q, .int .i64 r, .int .i64 s] 48 (0, 0))).cell? ⟨w1.heap.size, 0, none⟩ = some (.int .i64 a) := by rw [cell_of_row _ _ _ _ _ _ HF27.out]; rfl
    have hc33 : w6.cell? ⟨w1.heap.size, 0, none⟩ = some (.int .i64 a) := by rw [cell_of_row _ _ _ _ _ _ HF23.out]; rfl
    have hc34 : (w6.alloc (.cells #[.int .i64 p, .int .i64 q, .int .i64 r, .int .i64 s] 48 (0, 0))).cell? ⟨w1.heap.size, 1, none⟩ = some (.int .i64 b) := by rw [cell_of_row _ _ _ _ _ _ HF27.out]; rfl
    have hc35 : w6.cell? ⟨w1.heap.size, 1, none⟩ = some (.int .i64 b) := by rw [cell_of_row _ _ _ _ _ _ HF23.out]; rfl
    have hc36 : (w6.alloc (.cells #[.int .i64 p, .int .i64 q, .int .i64 r, .int .i64 s] 48 (0, 0))).cell? ⟨w1.heap.size, 2, none⟩ = some (.int .i64 c) := by rw [cell_of_row _ _ _ _ _ _ HF27.out]; rfl
    have hc37 : w6.cell? ⟨w1.heap.size, 2, none⟩ = some (.int .i64 c) := by rw [cell_of_row _ _ _ _ _ _ HF23.out]; rfl
    have hc38 : (w6.alloc (.cells #[.int .i64 p, .int .i64 q, .int .i64 r, .int .i64 s] 48 (0, 0))).cell? ⟨w1.heap.size, 3, none⟩ = some (.int .i64 d) := by rw [cell_of_row _ _ _ _ _ _ HF27.out]; rfl
    have hc39 : w6.cell? ⟨w1.heap.size, 3, none⟩ = some (.int .i64 d) := by rw [cell_of_row _ _ _ _ _ _ HF23.out]; rfl
    have hl40 : w1.heap.size < w6.heap.size := lt_of_block HF23.out
    have hl41 : ¬ w1.heap.size = w6.heap.size := by omega
    have hc42 : (w6.alloc (.cells #[.int .i64 p, .int .i64 q, .int .i64 r, .int .i64 s] 48 (0, 0))).cell? ⟨w2.heap.size, 0, none⟩ = some (.int .i64 a) := by rw [cell_of_row _ _ _ _ _ _ HF28.out]; rfl
    have hc43 : w6.cell? ⟨w2.heap.size, 0, none⟩ = some (.int .i64 a) := by rw [cell_of_row _ _ _ _ _ _ HF24.out]; rfl
    have hc44 : (w6.alloc (.cells #[.int .i64 p, .int .i64 q, .int .i64 r, .int .i64 s] 48 (0, 0))).cell? ⟨w2.heap.size, 1, none⟩ = some (.int .i64 b) := by rw [cell_of_row _ _ _ _ _ _ HF28.out]; rfl
    have hc45 : w6.cell? ⟨w2.heap.size, 1, none⟩ = some (.int .i64 b) := by rw [cell_of_row _ _ _ _ _ _ HF24.out]; rfl
    have hc46 : (w6.alloc (.cells #[.int .i64 p, .int .i64 q, .int .i64 r, .int .i64 s] 48 (0, 0))).cell? ⟨w2.heap.size, 2, none⟩ = some (.int .i64 c) := by rw [cell_of_row _ _ _ _ _ _ HF28.out]; rfl
    have hc47 : w6.cell? ⟨w2.heap.size, 2, none⟩ = some (.int .i64 c) := by rw [cell_of_row _ _ _ _ _ _ HF24.out]; rfl
    have hc48 : (w6.alloc (.cells #[.int .i64 p, .int .i64 q, .int .i64 r, .int .i64 s] 48 (0, 0))).cell? ⟨w2.heap.size, 3, none⟩ = some (.int .i64 d) := by rw [cell_of_row _ _ _ _ _ _ HF28.out]; rfl
    have hc49 : w6.cell? ⟨w2.heap.size, 3, none⟩ = some (.int .i64 d) := by rw [cell_of_row _ _ _ _ _ _ HF24.out]; rfl
    have hl50 : w2.heap.size < w6.heap.size := lt_of_block HF24.out
    have hl51 : ¬ w2.heap.size = w6.heap.size := by omega
    have hc52 : (w6.alloc (.cells #[.int .i64 p, .int .i64 q, .int .i64 r, .int .i64 s] 48 (0, 0))).cell? ⟨w5.heap.size, 0, none⟩ = some (.int .i64 p) := by rw [cell_of_row _ _ _ _ _ _ HF29.out]; rfl
    have hc53 : w6.cell? ⟨w5.heap.size, 0, none⟩ = some (.int .i64 p) := by rw [cell_of_row _ _ _ _ _ _ HF25.out]; rfl
    have hc54 : (w6.alloc (.cells #[.int .i64 p, .int .i64 q, .int .i64 r, .int .i64 s] 48 (0, 0))).cell? ⟨w5.heap.size, 1, none⟩ = some (.int .i64 q) := by rw [cell_of_row _ _ _ _ _ _ HF29.out]; rfl
    have hc55 : w6.cell? ⟨w5.heap.size, 1, none⟩ = some (.int .i64 q) := by rw [cell_of_row _ _ _ _ _ _ HF25.out]; rfl
    have hc56 : (w6.alloc (.cells #[.int .i64 p, .int .i64 q, .int .i64 r, .int .i64 s] 48 (0, 0))).cell? ⟨w5.heap.size, 2, none⟩ = some (.int .i64 r) := by rw [cell_of_row _ _ _ _ _ _ HF29.out]; rfl
    have hc57 : w6.cell? ⟨w5.heap.size, 2, none⟩ = some (.int .i64 r) := by rw [cell_of_row _ _ _ _ _ _ HF25.out]; rfl
    have hc58 : (w6.alloc (.cells #[.int .i64 p, .int .i64 q, .int .i64 r, .int .i64 s] 48 (0, 0))).cell? ⟨w5.heap.size, 3, none⟩ = some (.int .i64 s) := by rw [cell_of_row _ _ _ _ _ _ HF29.out]; rfl
    have hc59 : w6.cell? ⟨w5.heap.size, 3, none⟩ = some (.int .i64 s) := by rw [cell_of_row _ _ _ _ _ _ HF25.out]; rfl
    have hl60 : w5.heap.size < w6.heap.size := lt_of_block HF25.out
    have hl61 : ¬ w5.heap.size = w6.heap.size := by omega
    go_wp2_with fail
    refine (HA.out (w6.alloc (.cells #[.int .i64 p, .int .i64 q, .int .i64 r, .int .i64 s] 48 (0, 0))) (HT.out.later HB31.out)).mono ?_
    rintro e w7 ⟨rfl, hb7⟩
    clear hc32 hc33 hc34 hc35 hc36 hc37 hc38 hc39 hl40 hl41 hc42 hc43 hc44 hc45 hc46 hc47 hc48 hc49 hl50 hl51 hc52 hc53 hc54 hc55 hc56 hc57 hc58 hc59 hl60 hl61
    have HF62 := Lib.hid (blk_below HF27.out hb7)
    have HF63 := Lib.hid (blk_below HF28.out hb7)
    have HF64 := Lib.hid (blk_below HF29.out hb7)
    have HF65 := Lib.hid (blk_below HF30.out hb7)
    have HB66 := Lib.hid (HB31.out.trans (hb7.mono HB31.out.size))
    clear hb7 HB31 HF27 HF23 HF28 HF24 HF29 HF25 HF30
    go_wp2_with fail
    go_ret
    exact ⟨rfl, HB66.out⟩
set_option maxRecDepth 100000 in
theorem walk (S1 S2 : ByteArray) (w : World) (hT : Tab w) (hs1 : (S1.size : Int) ≤ 9223372036854775807) (hs2 : (S2.size : Int) ≤ 9223372036854775807) :
    Calls Tryd.prog 7 #[.string S1, .string S2] w fun e w' => e = .returned (.bool true) ∧ Below w.heap.size w w' := by
  by_cases h1 : S1.size ≤ 1000
  · by_cases h2 : S2.size ≤ 1000
    · exact walk_few S1 S2 w hT h1 h2
    · have hd1 : decide ((1000 : Int) < (S1.size : Int)) = false := decide_eq_false (by omega)
      have hd2 : decide ((1000 : Int) < (S2.size : Int)) = true := decide_eq_true (by omega)
      have HA := Lib.hid (awake08 w hT)
      clear h1 h2 hT
      go_enter Tryd.func7, Tryd.ntmps7
      go_wp2_with fail
      refine HA.out.mono ?_
      rintro e w1 ⟨rfl, hb⟩
      have HB := Lib.hid hb
      clear hb
      go_wp2_with fail
      go_ret
      exact ⟨rfl, HB.out⟩
  · have hd1 : decide ((1000 : Int) < (S1.size : Int)) = true := decide_eq_true (by omega)
    have HA := Lib.hid (awake08 w hT)
    clear h1 hT
    go_enter Tryd.func7, Tryd.ntmps7
    go_wp2_with fail
    refine HA.out.mono ?_
    rintro e w1 ⟨rfl, hb⟩
    have HB := Lib.hid hb
    clear hb
    go_wp2_with fail
    go_ret
    exact ⟨rfl, HB.out⟩
end Go.Proofs.YtcgoegehgcecpaaDoor.LSeatTakes
