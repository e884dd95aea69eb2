/- SeatPuts: whether any head may be, its sector, and the next one, are the document's. Condition: the table of crc. -/
import Derived.Test.YtcgoegehgcecpaaDoorRows
import Derived.Test.YtcgoegehgcecpaaDoorYn
namespace Go.Proofs.YtcgoegehgcecpaaDoor
open Go.RowKit Vi Cm

theorem hput_any (a b c d : Int) (w : World) (hT : Tab w) (ha : a ≤ 9223372036854775807) (hb : b ≤ 9223372036854775807) (hc : c ≤ 9223372036854775807) (hd : d ≤ 9223372036854775807) :
    Calls Tryd.prog 27 #[.agg #[.int .i64 a, .int .i64 b, .int .i64 c, .int .i64 d]] w fun e w' => e = .returned (.tuple #[.string (headD a b c d), .int .i64 (errH a b c d)]) ∧ Below w.heap.size w w' := by
  cases h : hok a b c d with
  | true =>
    have e1 : headD a b c d = headS a b c d := by unfold headD; rw [h]; rfl
    have e2 : errH a b c d = 0 := by unfold errH; rw [h]; rfl
    rw [e1, e2]
    exact hput_yes a b c d w hT h ha hb hc hd
  | false =>
    have e1 : headD a b c d = ⟨#[]⟩ := by unfold headD; rw [h]; rfl
    have e2 : errH a b c d = 2 := by unfold errH; rw [h]; rfl
    rw [e1, e2]
    exact hput_no a b c d w h
namespace LSeatPuts
set_option maxHeartbeats 2000000 in
set_option maxRecDepth 100000 in
theorem walk (a b c d p n : Int) (w : World) (hT : Tab w) (ha : a ≤ 9223372036854775807) (hb : b ≤ 9223372036854775807) (hc : c ≤ 9223372036854775807) (hd : d ≤ 9223372036854775807) :
    Calls Tryd.prog 6 #[.agg #[.int .i64 a, .int .i64 b, .int .i64 c, .int .i64 d], .int .i64 p, .int .i64 n] w fun e w' => e = .returned (.bool true) ∧ Below w.heap.size w w' := by
  have HT := Lib.hid hT
  have HA := Lib.hid (fun (W : World) (h : Tab W) => awake08 W h)
  have HP := Lib.hid (fun (W : World) (h : Tab W) => hput_any a b c d W h ha hb hc hd)
  have HR := Lib.hid (fun W : World => rputH_any a b c d W ha hb hc hd)
  have HI := Lib.hid (fun W : World => his_any a b c d W)
  have HC := Lib.hid (fun W : World => hcheck_any a b c d W)
  have HN := Lib.hid (fun W : World => next_any a b c d p n W)
  have HM := Lib.hid (fun W : World => rnext_any a b c d p n W)
  obtain ⟨x, y, z, u, f, hn⟩ : ∃ x y z u f : Int, nxV a b c d p n = .tuple #[.agg #[.int .i64 x, .int .i64 y, .int .i64 z, .int .i64 u], .int .i64 f] := by
    unfold nxV nxH
    split
    · exact ⟨_, _, _, _, _, rfl⟩
    · exact ⟨_, _, _, _, _, rfl⟩
  rw [hn] at HN HM
  generalize headD a b c d = D at HP HR
  clear hT ha hb hc hd hn
  cases hk : hok a b c d with
  | false =>
    rw [show errH a b c d = 2 by unfold errH; rw [hk]; rfl] at HP HC
    rw [hk] at HI
    clear hk
    have HB1 := Lib.hid (Below.refl w.heap.size w)
    go_enter Tryd.func6, Tryd.ntmps6
    go_wp2_with fail
    have HF2 := Lib.hid (blk_new w (.cells #[.int .i64 a, .int .i64 b, .int .i64 c, .int .i64 d] 48 (0, 0)))
    have HB3 := Lib.hid (HB1.out.alloc HB1.out.size (.cells #[.int .i64 a, .int .i64 b, .int .i64 c, .int .i64 d] 48 (0, 0)))
    clear HB1
    refine (HP.out (w.alloc (.cells #[.int .i64 a, .int .i64 b, .int .i64 c, .int .i64 d] 48 (0, 0))) (HT.out.later HB3.out)).mono ?_
    rintro e w1 ⟨rfl, hb1⟩
    have HF4 := Lib.hid (blk_below HF2.out hb1)
    have HB5 := Lib.hid (HB3.out.trans (hb1.mono HB3.out.size))
    clear hb1 HB3 HF2
    have hc6 : w1.cell? ⟨w.heap.size, 0, none⟩ = some (.int .i64 a) := by rw [cell_of_row _ _ _ _ _ _ HF4.out]; rfl
    have hc7 : w1.cell? ⟨w.heap.size, 1, none⟩ = some (.int .i64 b) := by rw [cell_of_row _ _ _ _ _ _ HF4.out]; rfl
    have hc8 : w1.cell? ⟨w.heap.size, 2, none⟩ = some (.int .i64 c) := by rw [cell_of_row _ _ _ _ _ _ HF4.out]; rfl
    have hc9 : w1.cell? ⟨w.heap.size, 3, none⟩ = some (.int .i64 d) := by rw [cell_of_row _ _ _ _ _ _ HF4.out]; rfl
    go_wp2_with fail
    refine (HN.out w1).mono ?_
    rintro e w2 ⟨rfl, hb2⟩
    clear hc6 hc7 hc8 hc9
    have HF10 := Lib.hid (blk_below HF4.out hb2)
    have HB11 := Lib.hid (HB5.out.trans (hb2.mono HB5.out.size))
    clear hb2 HB5 HF4
    have HF12 := Lib.hid (blk_alloc HF10.out (.cells #[.int .i64 x, .int .i64 y, .int .i64 z, .int .i64 u] 48 (0, 0)))
    have HF13 := Lib.hid (blk_new w2 (.cells #[.int .i64 x, .int .i64 y, .int .i64 z, .int .i64 u] 48 (0, 0)))
    have HB14 := Lib.hid (HB11.out.alloc HB11.out.size (.cells #[.int .i64 x, .int .i64 y, .int .i64 z, .int .i64 u] 48 (0, 0)))
    clear HB11
    have hc15 : (w2.alloc (.cells #[.int .i64 x, .int .i64 y, .int .i64 z, .int .i64 u] 48 (0, 0))).cell? ⟨w.heap.size, 0, none⟩ = some (.int .i64 a) := by rw [cell_of_row _ _ _ _ _ _ HF12.out]; rfl
    have hc16 : w2.cell? ⟨w.heap.size, 0, none⟩ = some (.int .i64 a) := by rw [cell_of_row _ _ _ _ _ _ HF10.out]; rfl
    have hc17 : (w2.alloc (.cells #[.int .i64 x, .int .i64 y, .int .i64 z, .int .i64 u] 48 (0, 0))).cell? ⟨w.heap.size, 1, none⟩ = some (.int .i64 b) := by rw [cell_of_row _ _ _ _ _ _ HF12.out]; rfl
    have hc18 : w2.cell? ⟨w.heap.size, 1, none⟩ = some (.int .i64 b) := by rw [cell_of_row _ _ _ _ _ _ HF10.out]; rfl
    have hc19 : (w2.alloc (.cells #[.int .i64 x, .int .i64 y, .int .i64 z, .int .i64 u] 48 (0, 0))).cell? ⟨w.heap.size, 2, none⟩ = some (.int .i64 c) := by rw [cell_of_row _ _ _ _ _ _ HF12.out]; rfl
    have hc20 : w2.cell? ⟨w.heap.size, 2, none⟩ = some (.int .i64 c) := by rw [cell_of_row _ _ _ _ _ _ HF10.out]; rfl
    have hc21 : (w2.alloc (.cells #[.int .i64 x, .int .i64 y, .int .i64 z, .int .i64 u] 48 (0, 0))).cell? ⟨w.heap.size, 3, none⟩ = some (.int .i64 d) := by rw [cell_of_row _ _ _ _ _ _ HF12.out]; rfl
    have hc22 : w2.cell? ⟨w.heap.size, 3, none⟩ = some (.int .i64 d) := by rw [cell_of_row _ _ _ _ _ _ HF10.out]; rfl
    have hl23 : w.heap.size < w2.heap.size := lt_of_block HF10.out
    have hl24 : ¬ w.heap.size = w2.heap.size := by omega
    go_wp2_with fail
    refine (HM.out (w2.alloc (.cells #[.int .i64 x, .int .i64 y, .int .i64 z, .int .i64 u] 48 (0, 0)))).mono ?_
    rintro e w3 ⟨rfl, hb3⟩
    clear hc15 hc16 hc17 hc18 hc19 hc20 hc21 hc22 hl23 hl24
    have HF25 := Lib.hid (blk_below HF12.out hb3)
    have HF26 := Lib.hid (blk_below HF13.out hb3)
    have HB27 := Lib.hid (HB14.out.trans (hb3.mono HB14.out.size))
    clear hb3 HB14 HF12 HF10 HF13
    have HF28 := Lib.hid (blk_alloc HF25.out (.cells #[.int .i64 x, .int .i64 y, .int .i64 z, .int .i64 u] 48 (0, 0)))
    have HF29 := Lib.hid (blk_alloc HF26.out (.cells #[.int .i64 x, .int .i64 y, .int .i64 z, .int .i64 u] 48 (0, 0)))
    have HF30 := Lib.hid (blk_new w3 (.cells #[.int .i64 x, .int .i64 y, .int .i64 z, .int .i64 u] 48 (0, 0)))
    have HB31 := Lib.hid (HB27.out.alloc HB27.out.size (.cells #[.int .i64 x, .int .i64 y, .int .i64 z, .int .i64 u] 48 (0, 0)))
    clear HB27
    have hc32 : (w3.alloc (.cells #[.int .i64 x, .int .i64 y, .int .i64 z, .int .i64 u] 48 (0, 0))).cell? ⟨w.heap.size, 0, none⟩ = some (.int .i64 a) := by rw [cell_of_row _ _ _ _ _ _ HF28.out]; rfl
    have hc33 : w3.cell? ⟨w.heap.size, 0, none⟩ = some (.int .i64 a) := by rw [cell_of_row _ _ _ _ _ _ HF25.out]; rfl
    have hc34 : (w3.alloc (.cells #[.int .i64 x, .int .i64 y, .int .i64 z, .int .i64 u] 48 (0, 0))).cell? ⟨w.heap.size, 1, none⟩ = some (.int .i64 b) := by rw [cell_of_row _ _ _ _ _ _ HF28.out]; rfl
    have hc35 : w3.cell? ⟨w.heap.size, 1, none⟩ = some (.int .i64 b) := by rw [cell_of_row _ _ _ _ _ _ HF25.out]; rfl
    have hc36 : (w3.alloc (.cells #[.int .i64 x, .int .i64 y, .int .i64 z, .int .i64 u] 48 (0, 0))).cell? ⟨w.heap.size, 2, none⟩ = some (.int .i64 c) := by rw [cell_of_row _ _ _ _ _ _ HF28.out]; rfl
    have hc37 : w3.cell? ⟨w.heap.size, 2, none⟩ = some (.int .i64 c) := by rw [cell_of_row _ _ _ _ _ _ HF25.out]; rfl
    have hc38 : (w3.alloc (.cells #[.int .i64 x, .int .i64 y, .int .i64 z, .int .i64 u] 48 (0, 0))).cell? ⟨w.heap.size, 3, none⟩ = some (.int .i64 d) := by rw [cell_of_row _ _ _ _ _ _ HF28.out]; rfl
    have hc39 : w3.cell? ⟨w.heap.size, 3, none⟩ = some (.int .i64 d) := by rw [cell_of_row _ _ _ _ _ _ HF25.out]; rfl
    have hl40 : w.heap.size < w3.heap.size := lt_of_block HF25.out
    have hl41 : ¬ w.heap.size = w3.heap.size := by omega
    go_wp2_with fail
    refine (HI.out (w3.alloc (.cells #[.int .i64 x, .int .i64 y, .int .i64 z, .int .i64 u] 48 (0, 0)))).mono ?_
    rintro e w4 ⟨rfl, hb4⟩
    clear hc32 hc33 hc34 hc35 hc36 hc37 hc38 hc39 hl40 hl41
    have HF42 := Lib.hid (blk_below HF28.out hb4)
    have HF43 := Lib.hid (blk_below HF29.out hb4)
    have HF44 := Lib.hid (blk_below HF30.out hb4)
    have HB45 := Lib.hid (HB31.out.trans (hb4.mono HB31.out.size))
    clear hb4 HB31 HF28 HF25 HF29 HF26 HF30
    have hc46 : w4.cell? ⟨w.heap.size, 0, none⟩ = some (.int .i64 a) := by rw [cell_of_row _ _ _ _ _ _ HF42.out]; rfl
    have hc47 : w4.cell? ⟨w.heap.size, 1, none⟩ = some (.int .i64 b) := by rw [cell_of_row _ _ _ _ _ _ HF42.out]; rfl
    have hc48 : w4.cell? ⟨w.heap.size, 2, none⟩ = some (.int .i64 c) := by rw [cell_of_row _ _ _ _ _ _ HF42.out]; rfl
    have hc49 : w4.cell? ⟨w.heap.size, 3, none⟩ = some (.int .i64 d) := by rw [cell_of_row _ _ _ _ _ _ HF42.out]; rfl
    go_wp2_with fail
    refine (HR.out w4).mono ?_
    rintro e w5 ⟨rfl, hb5⟩
    clear hc46 hc47 hc48 hc49
    have HF50 := Lib.hid (blk_below HF42.out hb5)
    have HF51 := Lib.hid (blk_below HF43.out hb5)
    have HF52 := Lib.hid (blk_below HF44.out hb5)
    have HB53 := Lib.hid (HB45.out.trans (hb5.mono HB45.out.size))
    clear hb5 HB45 HF42 HF43 HF44
    have hc54 : w5.cell? ⟨w.heap.size, 0, none⟩ = some (.int .i64 a) := by rw [cell_of_row _ _ _ _ _ _ HF50.out]; rfl
    have hc55 : w5.cell? ⟨w.heap.size, 1, none⟩ = some (.int .i64 b) := by rw [cell_of_row _ _ _ _ _ _ HF50.out]; rfl
    have hc56 : w5.cell? ⟨w.heap.size, 2, none⟩ = some (.int .i64 c) := by rw [cell_of_row _ _ _ _ _ _ HF50.out]; rfl
    have hc57 : w5.cell? ⟨w.heap.size, 3, none⟩ = some (.int .i64 d) := by rw [cell_of_row _ _ _ _ _ _ HF50.out]; rfl
    go_wp2_with fail
    refine (HC.out w5).mono ?_
    rintro e w6 ⟨rfl, hb6⟩
    clear hc54 hc55 hc56 hc57
    have HF58 := Lib.hid (blk_below HF50.out hb6)
    have HF59 := Lib.hid (blk_below HF51.out hb6)
    have HF60 := Lib.hid (blk_below HF52.out hb6)
    have HB61 := Lib.hid (HB53.out.trans (hb6.mono HB53.out.size))
    clear hb6 HB53 HF50 HF51 HF52
    have hc62 : w6.cell? ⟨w2.heap.size, 0, none⟩ = some (.int .i64 x) := by rw [cell_of_row _ _ _ _ _ _ HF59.out]; rfl
    have hc63 : w6.cell? ⟨w2.heap.size, 1, none⟩ = some (.int .i64 y) := by rw [cell_of_row _ _ _ _ _ _ HF59.out]; rfl
    have hc64 : w6.cell? ⟨w2.heap.size, 2, none⟩ = some (.int .i64 z) := by rw [cell_of_row _ _ _ _ _ _ HF59.out]; rfl
    have hc65 : w6.cell? ⟨w2.heap.size, 3, none⟩ = some (.int .i64 u) := by rw [cell_of_row _ _ _ _ _ _ HF59.out]; rfl
    have hc66 : w6.cell? ⟨w3.heap.size, 0, none⟩ = some (.int .i64 x) := by rw [cell_of_row _ _ _ _ _ _ HF60.out]; rfl
    have hc67 : w6.cell? ⟨w3.heap.size, 1, none⟩ = some (.int .i64 y) := by rw [cell_of_row _ _ _ _ _ _ HF60.out]; rfl
    have hc68 : w6.cell? ⟨w3.heap.size, 2, none⟩ = some (.int .i64 z) := by rw [cell_of_row _ _ _ _ _ _ HF60.out]; rfl
    have hc69 : w6.cell? ⟨w3.heap.size, 3, none⟩ = some (.int .i64 u) := by rw [cell_of_row _ _ _ _ _ _ HF60.out]; rfl
    go_wp2_with fail
    refine (HA.out w6 (HT.out.later HB61.out)).mono ?_
    rintro e w7 ⟨rfl, hb7⟩
    clear hc62 hc63 hc64 hc65 hc66 hc67 hc68 hc69
    have HF70 := Lib.hid (blk_below HF58.out hb7)
    have HF71 := Lib.hid (blk_below HF59.out hb7)
    have HF72 := Lib.hid (blk_below HF60.out hb7)
    have HB73 := Lib.hid (HB61.out.trans (hb7.mono HB61.out.size))
    clear hb7 HB61 HF58 HF59 HF60
    go_wp2_with fail
    go_ret
    exact ⟨rfl, HB73.out⟩
  | true =>
    rw [show errH a b c d = 0 by unfold errH; rw [hk]; rfl] at HP HC
    rw [hk] at HI
    clear hk
    have HB1 := Lib.hid (Below.refl w.heap.size w)
    go_enter Tryd.func6, Tryd.ntmps6
    go_wp2_with fail
    have HF2 := Lib.hid (blk_new w (.cells #[.int .i64 a, .int .i64 b, .int .i64 c, .int .i64 d] 48 (0, 0)))
    have HB3 := Lib.hid (HB1.out.alloc HB1.out.size (.cells #[.int .i64 a, .int .i64 b, .int .i64 c, .int .i64 d] 48 (0, 0)))
    clear HB1
    refine (HP.out (w.alloc (.cells #[.int .i64 a, .int .i64 b, .int .i64 c, .int .i64 d] 48 (0, 0))) (HT.out.later HB3.out)).mono ?_
    rintro e w1 ⟨rfl, hb1⟩
    have HF4 := Lib.hid (blk_below HF2.out hb1)
    have HB5 := Lib.hid (HB3.out.trans (hb1.mono HB3.out.size))
    clear hb1 HB3 HF2
    have hc6 : w1.cell? ⟨w.heap.size, 0, none⟩ = some (.int .i64 a) := by rw [cell_of_row _ _ _ _ _ _ HF4.out]; rfl
    have hc7 : w1.cell? ⟨w.heap.size, 1, none⟩ = some (.int .i64 b) := by rw [cell_of_row _ _ _ _ _ _ HF4.out]; rfl
    have hc8 : w1.cell? ⟨w.heap.size, 2, none⟩ = some (.int .i64 c) := by rw [cell_of_row _ _ _ _ _ _ HF4.out]; rfl
    have hc9 : w1.cell? ⟨w.heap.size, 3, none⟩ = some (.int .i64 d) := by rw [cell_of_row _ _ _ _ _ _ HF4.out]; rfl
    go_wp2_with fail
    refine (HN.out w1).mono ?_
    rintro e w2 ⟨rfl, hb2⟩
    clear hc6 hc7 hc8 hc9
    have HF10 := Lib.hid (blk_below HF4.out hb2)
    have HB11 := Lib.hid (HB5.out.trans (hb2.mono HB5.out.size))
    clear hb2 HB5 HF4
    have HF12 := Lib.hid (blk_alloc HF10.out (.cells #[.int .i64 x, .int .i64 y, .int .i64 z, .int .i64 u] 48 (0, 0)))
    have HF13 := Lib.hid (blk_new w2 (.cells #[.int .i64 x, .int .i64 y, .int .i64 z, .int .i64 u] 48 (0, 0)))
    have HB14 := Lib.hid (HB11.out.alloc HB11.out.size (.cells #[.int .i64 x, .int .i64 y, .int .i64 z, .int .i64 u] 48 (0, 0)))
    clear HB11
    have hc15 : (w2.alloc (.cells #[.int .i64 x, .int .i64 y, .int .i64 z, .int .i64 u] 48 (0, 0))).cell? ⟨w.heap.size, 0, none⟩ = some (.int .i64 a) := by rw [cell_of_row _ _ _ _ _ _ HF12.out]; rfl
    have hc16 : w2.cell? ⟨w.heap.size, 0, none⟩ = some (.int .i64 a) := by rw [cell_of_row _ _ _ _ _ _ HF10.out]; rfl
    have hc17 : (w2.alloc (.cells #[.int .i64 x, .int .i64 y, .int .i64 z, .int .i64 u] 48 (0, 0))).cell? ⟨w.heap.size, 1, none⟩ = some (.int .i64 b) := by rw [cell_of_row _ _ _ _ _ _ HF12.out]; rfl
    have hc18 : w2.cell? ⟨w.heap.size, 1, none⟩ = some (.int .i64 b) := by rw [cell_of_row _ _ _ _ _ _ HF10.out]; rfl
    have hc19 : (w2.alloc (.cells #[.int .i64 x, .int .i64 y, .int .i64 z, .int .i64 u] 48 (0, 0))).cell? ⟨w.heap.size, 2, none⟩ = some (.int .i64 c) := by rw [cell_of_row _ _ _ _ _ _ HF12.out]; rfl
    have hc20 : w2.cell? ⟨w.heap.size, 2, none⟩ = some (.int .i64 c) := by rw [cell_of_row _ _ _ _ _ _ HF10.out]; rfl
    have hc21 : (w2.alloc (.cells #[.int .i64 x, .int .i64 y, .int .i64 z, .int .i64 u] 48 (0, 0))).cell? ⟨w.heap.size, 3, none⟩ = some (.int .i64 d) := by rw [cell_of_row _ _ _ _ _ _ HF12.out]; rfl
    have hc22 : w2.cell? ⟨w.heap.size, 3, none⟩ = some (.int .i64 d) := by rw [cell_of_row _ _ _ _ _ _ HF10.out]; rfl
    have hl23 : w.heap.size < w2.heap.size := lt_of_block HF10.out
    have hl24 : ¬ w.heap.size = w2.heap.size := by omega
    go_wp2_with fail
    refine (HM.out (w2.alloc (.cells #[.int .i64 x, .int .i64 y, .int .i64 z, .int .i64 u] 48 (0, 0)))).mono ?_
    rintro e w3 ⟨rfl, hb3⟩
    clear hc15 hc16 hc17 hc18 hc19 hc20 hc21 hc22 hl23 hl24
    have HF25 := Lib.hid (blk_below HF12.out hb3)
    have HF26 := Lib.hid (blk_below HF13.out hb3)
    have HB27 := Lib.hid (HB14.out.trans (hb3.mono HB14.out.size))
    clear hb3 HB14 HF12 HF10 HF13
    have HF28 := Lib.hid (blk_alloc HF25.out (.cells #[.int .i64 x, .int .i64 y, .int .i64 z, .int .i64 u] 48 (0, 0)))
    have HF29 := Lib.hid (blk_alloc HF26.out (.cells #[.int .i64 x, .int .i64 y, .int .i64 z, .int .i64 u] 48 (0, 0)))
    have HF30 := Lib.hid (blk_new w3 (.cells #[.int .i64 x, .int .i64 y, .int .i64 z, .int .i64 u] 48 (0, 0)))
    have HB31 := Lib.hid (HB27.out.alloc HB27.out.size (.cells #[.int .i64 x, .int .i64 y, .int .i64 z, .int .i64 u] 48 (0, 0)))
    clear HB27
    have hc32 : (w3.alloc (.cells #[.int .i64 x, .int .i64 y, .int .i64 z, .int .i64 u] 48 (0, 0))).cell? ⟨w.heap.size, 0, none⟩ = some (.int .i64 a) := by rw [cell_of_row _ _ _ _ _ _ HF28.out]; rfl
    have hc33 : w3.cell? ⟨w.heap.size, 0, none⟩ = some (.int .i64 a) := by rw [cell_of_row _ _ _ _ _ _ HF25.out]; rfl
    have hc34 : (w3.alloc (.cells #[.int .i64 x, .int .i64 y, .int .i64 z, .int .i64 u] 48 (0, 0))).cell? ⟨w.heap.size, 1, none⟩ = some (.int .i64 b) := by rw [cell_of_row _ _ _ _ _ _ HF28.out]; rfl
    have hc35 : w3.cell? ⟨w.heap.size, 1, none⟩ = some (.int .i64 b) := by rw [cell_of_row _ _ _ _ _ _ HF25.out]; rfl
    have hc36 : (w3.alloc (.cells #[.int .i64 x, .int .i64 y, .int .i64 z, .int .i64 u] 48 (0, 0))).cell? ⟨w.heap.size, 2, none⟩ = some (.int .i64 c) := by rw [cell_of_row _ _ _ _ _ _ HF28.out]; rfl
    have hc37 : w3.cell? ⟨w.heap.size, 2, none⟩ = some (.int .i64 c) := by rw [cell_of_row _ _ _ _ _ _ HF25.out]; rfl
    have hc38 : (w3.alloc (.cells #[.int .i64 x, .int .i64 y, .int .i64 z, .int .i64 u] 48 (0, 0))).cell? ⟨w.heap.size, 3, none⟩ = some (.int .i64 d) := by rw [cell_of_row _ _ _ _ _ _ HF28.out]; rfl
    have hc39 : w3.cell? ⟨w.heap.size, 3, none⟩ = some (.int .i64 d) := by rw [cell_of_row _ _ _ _ _ _ HF25.out]; rfl
    have hl40 : w.heap.size < w3.heap.size := lt_of_block HF25.out
    have hl41 : ¬ w.heap.size = w3.heap.size := by omega
    go_wp2_with fail
    refine (HI.out (w3.alloc (.cells #[.int .i64 x, .int .i64 y, .int .i64 z, .int .i64 u] 48 (0, 0)))).mono ?_
    rintro e w4 ⟨rfl, hb4⟩
    clear hc32 hc33 hc34 hc35 hc36 hc37 hc38 hc39 hl40 hl41
    have HF42 := Lib.hid (blk_below HF28.out hb4)
    have HF43 := Lib.hid (blk_below HF29.out hb4)
    have HF44 := Lib.hid (blk_below HF30.out hb4)
    have HB45 := Lib.hid (HB31.out.trans (hb4.mono HB31.out.size))
    clear hb4 HB31 HF28 HF25 HF29 HF26 HF30
    have hc46 : w4.cell? ⟨w.heap.size, 0, none⟩ = some (.int .i64 a) := by rw [cell_of_row _ _ _ _ _ _ HF42.out]; rfl
    have hc47 : w4.cell? ⟨w.heap.size, 1, none⟩ = some (.int .i64 b) := by rw [cell_of_row _ _ _ _ _ _ HF42.out]; rfl
    have hc48 : w4.cell? ⟨w.heap.size, 2, none⟩ = some (.int .i64 c) := by rw [cell_of_row _ _ _ _ _ _ HF42.out]; rfl
    have hc49 : w4.cell? ⟨w.heap.size, 3, none⟩ = some (.int .i64 d) := by rw [cell_of_row _ _ _ _ _ _ HF42.out]; rfl
    go_wp2_with fail
    refine (HR.out w4).mono ?_
    rintro e w5 ⟨rfl, hb5⟩
    clear hc46 hc47 hc48 hc49
    have HF50 := Lib.hid (blk_below HF42.out hb5)
    have HF51 := Lib.hid (blk_below HF43.out hb5)
    have HF52 := Lib.hid (blk_below HF44.out hb5)
    have HB53 := Lib.hid (HB45.out.trans (hb5.mono HB45.out.size))
    clear hb5 HB45 HF42 HF43 HF44
    have hc54 : w5.cell? ⟨w.heap.size, 0, none⟩ = some (.int .i64 a) := by rw [cell_of_row _ _ _ _ _ _ HF50.out]; rfl
    have hc55 : w5.cell? ⟨w.heap.size, 1, none⟩ = some (.int .i64 b) := by rw [cell_of_row _ _ _ _ _ _ HF50.out]; rfl
    have hc56 : w5.cell? ⟨w.heap.size, 2, none⟩ = some (.int .i64 c) := by rw [cell_of_row _ _ _ _ _ _ HF50.out]; rfl
    have hc57 : w5.cell? ⟨w.heap.size, 3, none⟩ = some (.int .i64 d) := by rw [cell_of_row _ _ _ _ _ _ HF50.out]; rfl
    go_wp2_with fail
    refine (HC.out w5).mono ?_
    rintro e w6 ⟨rfl, hb6⟩
    clear hc54 hc55 hc56 hc57
    have HF58 := Lib.hid (blk_below HF50.out hb6)
    have HF59 := Lib.hid (blk_below HF51.out hb6)
    have HF60 := Lib.hid (blk_below HF52.out hb6)
    have HB61 := Lib.hid (HB53.out.trans (hb6.mono HB53.out.size))
    clear hb6 HB53 HF50 HF51 HF52
    have hc62 : w6.cell? ⟨w2.heap.size, 0, none⟩ = some (.int .i64 x) := by rw [cell_of_row _ _ _ _ _ _ HF59.out]; rfl
    have hc63 : w6.cell? ⟨w2.heap.size, 1, none⟩ = some (.int .i64 y) := by rw [cell_of_row _ _ _ _ _ _ HF59.out]; rfl
    have hc64 : w6.cell? ⟨w2.heap.size, 2, none⟩ = some (.int .i64 z) := by rw [cell_of_row _ _ _ _ _ _ HF59.out]; rfl
    have hc65 : w6.cell? ⟨w2.heap.size, 3, none⟩ = some (.int .i64 u) := by rw [cell_of_row _ _ _ _ _ _ HF59.out]; rfl
    have hc66 : w6.cell? ⟨w3.heap.size, 0, none⟩ = some (.int .i64 x) := by rw [cell_of_row _ _ _ _ _ _ HF60.out]; rfl
    have hc67 : w6.cell? ⟨w3.heap.size, 1, none⟩ = some (.int .i64 y) := by rw [cell_of_row _ _ _ _ _ _ HF60.out]; rfl
    have hc68 : w6.cell? ⟨w3.heap.size, 2, none⟩ = some (.int .i64 z) := by rw [cell_of_row _ _ _ _ _ _ HF60.out]; rfl
    have hc69 : w6.cell? ⟨w3.heap.size, 3, none⟩ = some (.int .i64 u) := by rw [cell_of_row _ _ _ _ _ _ HF60.out]; rfl
    go_wp2_with fail
    refine (HA.out w6 (HT.out.later HB61.out)).mono ?_
    rintro e w7 ⟨rfl, hb7⟩
    clear hc62 hc63 hc64 hc65 hc66 hc67 hc68 hc69
    have HF70 := Lib.hid (blk_below HF58.out hb7)
    have HF71 := Lib.hid (blk_below HF59.out hb7)
    have HF72 := Lib.hid (blk_below HF60.out hb7)
    have HB73 := Lib.hid (HB61.out.trans (hb7.mono HB61.out.size))
    clear hb7 HB61 HF58 HF59 HF60
    go_wp2_with fail
    go_ret
    exact ⟨rfl, HB73.out⟩
end LSeatPuts
end Go.Proofs.YtcgoegehgcecpaaDoor
