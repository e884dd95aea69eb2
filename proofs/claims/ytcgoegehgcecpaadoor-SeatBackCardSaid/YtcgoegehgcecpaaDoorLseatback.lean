/- SeatBack: a head comes back from its sector; what is taken, put, is that sector. Condition: the table of crc. -/
import Derived.Test.YtcgoegehgcecpaaDoorRows
import Derived.Test.YtcgoegehgcecpaaDoorLseatputs
namespace Go.Proofs.YtcgoegehgcecpaaDoor.LSeatBack
open Go.RowKit Vi Cm

set_option maxHeartbeats 4000000 in
set_option maxRecDepth 100000 in
theorem walk_few (a b c d : Int) (S : ByteArray) (w : World) (hT : Tab w) (hS : S.size ≤ 1000) (ha : a ≤ 9223372036854775807) (hb : b ≤ 9223372036854775807) (hc : c ≤ 9223372036854775807) (hd : d ≤ 9223372036854775807) :
    Calls Tryd.prog 10 #[.agg #[.int .i64 a, .int .i64 b, .int .i64 c, .int .i64 d], .string S] w fun e w' => e = .returned (.bool true) ∧ Below w.heap.size w w' := by
  have HT := Lib.hid hT
  have HA := Lib.hid (fun (W : World) (h : Tab W) => awake08 W h)
  have hd1 : decide ((1000 : Int) < (S.size : Int)) = false := decide_eq_false (by omega)
  have HP := Lib.hid (fun (W : World) (h : Tab W) => hput_any a b c d W h ha hb hc hd)
  have HX := Lib.hid (fun (W : World) (h : Tab W) (k : hok a b c d = true) => (tkF_yes a b c d k).prog W h)
  have hsz := head_size a b c d
  have hD : hok a b c d = true → headD a b c d = headS a b c d := fun h => by unfold headD; rw [if_pos h]
  obtain ⟨a2, b2, c2, d2, e2, k2⟩ := tkF_any S hS
  have HT2 := Lib.hid k2.prog
  have hput : e2 = 0 → ∀ W, Tab W → Calls Tryd.prog 27 #[.agg #[.int .i64 a2, .int .i64 b2, .int .i64 c2, .int .i64 d2]] W fun e w' => e = .returned (.tuple #[.string S, .int .i64 0]) ∧ Below W.heap.size W w' := by
    intro he W hW
    rcases k2.is with ⟨_, g2, g3⟩ | ⟨g1, _⟩
    · have := hok_bd g2
      have h := hput_yes a2 b2 c2 d2 W hW g2 (by omega) (by omega) (by omega) (by omega)
      rw [← g3] at h
      exact h
    · omega
  have HP2 := Lib.hid hput
  have hz : e2 = 0 ∨ (e2 = 3 ∧ a2 = 0 ∧ b2 = 0 ∧ c2 = 0 ∧ d2 = 0) := by
    rcases k2.is with g | g
    · exact Or.inl g.1
    · exact Or.inr ⟨g.1, g.2.1, g.2.2.1, g.2.2.2.1, g.2.2.2.2.1⟩
  clear k2 hput hT hS ha hb hc hd
  cases hk : hok a b c d with
  | true =>
    have HX1 := Lib.hid (fun (W : World) (h : Tab W) => HX.out W h hk)
    rw [hD hk] at HP
    rw [show errH a b c d = 0 by unfold errH; rw [hk]; rfl] at HP
    generalize headS a b c d = D at HP HX1 hsz HX
    have HZ := Lib.hid hsz
    have hq : ((D.size : Int) == 128) = true := by rw [hsz]; rfl
    have hq2 : ((D.size : Int) != 128) = false := by rw [hsz]; rfl
    clear hD hk hsz HX
    rcases hz with rfl | ⟨rfl, rfl, rfl, rfl, rfl⟩
    · have HPP := Lib.hid (fun (W : World) (h : Tab W) => HP2.out rfl W h)
      have hss : (S.toList == S.toList) = true := by simp
      clear HP2
      have HB1 := Lib.hid (Below.refl w.heap.size w)
      go_enter Tryd.func10, Tryd.ntmps10
      go_wp2_with fail
      have HF2 := Lib.hid (blk_new w (.cells #[.int .i64 a, .int .i64 b, .int .i64 c, .int .i64 d] 48 (0, 0)))
      have HB3 := Lib.hid (HB1.out.alloc HB1.out.size (.cells #[.int .i64 a, .int .i64 b, .int .i64 c, .int .i64 d] 48 (0, 0)))
      clear HB1
      refine (HP.out (w.alloc (.cells #[.int .i64 a, .int .i64 b, .int .i64 c, .int .i64 d] 48 (0, 0))) (HT.out.later HB3.out)).mono ?_
      rintro e w1 ⟨rfl, hb1⟩
      have HF4 := Lib.hid (blk_below HF2.out hb1)
      have HB5 := Lib.hid (HB3.out.trans (hb1.mono HB3.out.size))
      clear hb1 HB3 HF2
      go_wp2_with fail
      refine (HX1.out w1 (HT.out.later HB5.out)).mono ?_
      rintro e w2 ⟨rfl, hb2⟩
      have HF6 := Lib.hid (blk_below HF4.out hb2)
      have HB7 := Lib.hid (HB5.out.trans (hb2.mono HB5.out.size))
      clear hb2 HB5 HF4
      have HF8 := Lib.hid (blk_alloc HF6.out (.cells #[.int .i64 a, .int .i64 b, .int .i64 c, .int .i64 d] 48 (0, 0)))
      have HF9 := Lib.hid (blk_new w2 (.cells #[.int .i64 a, .int .i64 b, .int .i64 c, .int .i64 d] 48 (0, 0)))
      have HB10 := Lib.hid (HB7.out.alloc HB7.out.size (.cells #[.int .i64 a, .int .i64 b, .int .i64 c, .int .i64 d] 48 (0, 0)))
      clear HB7
      have hc11 : (w2.alloc (.cells #[.int .i64 a, .int .i64 b, .int .i64 c, .int .i64 d] 48 (0, 0))).cell? ⟨w.heap.size, 0, none⟩ = some (.int .i64 a) := by rw [cell_of_row _ _ _ _ _ _ HF8.out]; rfl
      have hc12 : w2.cell? ⟨w.heap.size, 0, none⟩ = some (.int .i64 a) := by rw [cell_of_row _ _ _ _ _ _ HF6.out]; rfl
      have hc13 : (w2.alloc (.cells #[.int .i64 a, .int .i64 b, .int .i64 c, .int .i64 d] 48 (0, 0))).cell? ⟨w.heap.size, 1, none⟩ = some (.int .i64 b) := by rw [cell_of_row _ _ _ _ _ _ HF8.out]; rfl
      have hc14 : w2.cell? ⟨w.heap.size, 1, none⟩ = some (.int .i64 b) := by rw [cell_of_row _ _ _ _ _ _ HF6.out]; rfl
      have hc15 : (w2.alloc (.cells #[.int .i64 a, .int .i64 b, .int .i64 c, .int .i64 d] 48 (0, 0))).cell? ⟨w.heap.size, 2, none⟩ = some (.int .i64 c) := by rw [cell_of_row _ _ _ _ _ _ HF8.out]; rfl
      have hc16 : w2.cell? ⟨w.heap.size, 2, none⟩ = some (.int .i64 c) := by rw [cell_of_row _ _ _ _ _ _ HF6.out]; rfl
      have hc17 : (w2.alloc (.cells #[.int .i64 a, .int .i64 b, .int .i64 c, .int .i64 d] 48 (0, 0))).cell? ⟨w.heap.size, 3, none⟩ = some (.int .i64 d) := by rw [cell_of_row _ _ _ _ _ _ HF8.out]; rfl
      have hc18 : w2.cell? ⟨w.heap.size, 3, none⟩ = some (.int .i64 d) := by rw [cell_of_row _ _ _ _ _ _ HF6.out]; rfl
      have hl19 : w.heap.size < w2.heap.size := lt_of_block HF6.out
      have hl20 : ¬ w.heap.size = w2.heap.size := by omega
      go_wp2_with fail
      clear hc11 hc12 hc13 hc14 hc15 hc16 hc17 hc18 hl19 hl20
      refine (HT2.out (w2.alloc (.cells #[.int .i64 a, .int .i64 b, .int .i64 c, .int .i64 d] 48 (0, 0))) (HT.out.later HB10.out)).mono ?_
      rintro e w3 ⟨rfl, hb3⟩
      have HF21 := Lib.hid (blk_below HF8.out hb3)
      have HF22 := Lib.hid (blk_below HF9.out hb3)
      have HB23 := Lib.hid (HB10.out.trans (hb3.mono HB10.out.size))
      clear hb3 HB10 HF8 HF6 HF9
      have HF24 := Lib.hid (blk_alloc HF21.out (.cells #[.int .i64 a2, .int .i64 b2, .int .i64 c2, .int .i64 d2] 48 (0, 0)))
      have HF25 := Lib.hid (blk_alloc HF22.out (.cells #[.int .i64 a2, .int .i64 b2, .int .i64 c2, .int .i64 d2] 48 (0, 0)))
      have HF26 := Lib.hid (blk_new w3 (.cells #[.int .i64 a2, .int .i64 b2, .int .i64 c2, .int .i64 d2] 48 (0, 0)))
      have HB27 := Lib.hid (HB23.out.alloc HB23.out.size (.cells #[.int .i64 a2, .int .i64 b2, .int .i64 c2, .int .i64 d2] 48 (0, 0)))
      clear HB23
      go_wp2_with fail
      refine (HPP.out (w3.alloc (.cells #[.int .i64 a2, .int .i64 b2, .int .i64 c2, .int .i64 d2] 48 (0, 0))) (HT.out.later HB27.out)).mono ?_
      rintro e w4 ⟨rfl, hb4⟩
      have HF28 := Lib.hid (blk_below HF24.out hb4)
      have HF29 := Lib.hid (blk_below HF25.out hb4)
      have HF30 := Lib.hid (blk_below HF26.out hb4)
      have HB31 := Lib.hid (HB27.out.trans (hb4.mono HB27.out.size))
      clear hb4 HB27 HF24 HF21 HF25 HF22 HF26
      go_wp2_with fail
      refine (HA.out w4 (HT.out.later HB31.out)).mono ?_
      rintro e w5 ⟨rfl, hb5⟩
      have HF32 := Lib.hid (blk_below HF28.out hb5)
      have HF33 := Lib.hid (blk_below HF29.out hb5)
      have HF34 := Lib.hid (blk_below HF30.out hb5)
      have HB35 := Lib.hid (HB31.out.trans (hb5.mono HB31.out.size))
      clear hb5 HB31 HF28 HF29 HF30
      go_wp2_with fail
      go_ret
      exact ⟨rfl, HB35.out⟩
    · clear HP2
      have HB1 := Lib.hid (Below.refl w.heap.size w)
      go_enter Tryd.func10, Tryd.ntmps10
      go_wp2_with fail
      have HF2 := Lib.hid (blk_new w (.cells #[.int .i64 a, .int .i64 b, .int .i64 c, .int .i64 d] 48 (0, 0)))
      have HB3 := Lib.hid (HB1.out.alloc HB1.out.size (.cells #[.int .i64 a, .int .i64 b, .int .i64 c, .int .i64 d] 48 (0, 0)))
      clear HB1
      refine (HP.out (w.alloc (.cells #[.int .i64 a, .int .i64 b, .int .i64 c, .int .i64 d] 48 (0, 0))) (HT.out.later HB3.out)).mono ?_
      rintro e w1 ⟨rfl, hb1⟩
      have HF4 := Lib.hid (blk_below HF2.out hb1)
      have HB5 := Lib.hid (HB3.out.trans (hb1.mono HB3.out.size))
      clear hb1 HB3 HF2
      go_wp2_with fail
      refine (HX1.out w1 (HT.out.later HB5.out)).mono ?_
      rintro e w2 ⟨rfl, hb2⟩
      have HF6 := Lib.hid (blk_below HF4.out hb2)
      have HB7 := Lib.hid (HB5.out.trans (hb2.mono HB5.out.size))
      clear hb2 HB5 HF4
      have HF8 := Lib.hid (blk_alloc HF6.out (.cells #[.int .i64 a, .int .i64 b, .int .i64 c, .int .i64 d] 48 (0, 0)))
      have HF9 := Lib.hid (blk_new w2 (.cells #[.int .i64 a, .int .i64 b, .int .i64 c, .int .i64 d] 48 (0, 0)))
      have HB10 := Lib.hid (HB7.out.alloc HB7.out.size (.cells #[.int .i64 a, .int .i64 b, .int .i64 c, .int .i64 d] 48 (0, 0)))
      clear HB7
      have hc11 : (w2.alloc (.cells #[.int .i64 a, .int .i64 b, .int .i64 c, .int .i64 d] 48 (0, 0))).cell? ⟨w.heap.size, 0, none⟩ = some (.int .i64 a) := by rw [cell_of_row _ _ _ _ _ _ HF8.out]; rfl
      have hc12 : w2.cell? ⟨w.heap.size, 0, none⟩ = some (.int .i64 a) := by rw [cell_of_row _ _ _ _ _ _ HF6.out]; rfl
      have hc13 : (w2.alloc (.cells #[.int .i64 a, .int .i64 b, .int .i64 c, .int .i64 d] 48 (0, 0))).cell? ⟨w.heap.size, 1, none⟩ = some (.int .i64 b) := by rw [cell_of_row _ _ _ _ _ _ HF8.out]; rfl
      have hc14 : w2.cell? ⟨w.heap.size, 1, none⟩ = some (.int .i64 b) := by rw [cell_of_row _ _ _ _ _ _ HF6.out]; rfl
      have hc15 : (w2.alloc (.cells #[.int .i64 a, .int .i64 b, .int .i64 c, .int .i64 d] 48 (0, 0))).cell? ⟨w.heap.size, 2, none⟩ = some (.int .i64 c) := by rw [cell_of_row _ _ _ _ _ _ HF8.out]; rfl
      have hc16 : w2.cell? ⟨w.heap.size, 2, none⟩ = some (.int .i64 c) := by rw [cell_of_row _ _ _ _ _ _ HF6.out]; rfl
      have hc17 : (w2.alloc (.cells #[.int .i64 a, .int .i64 b, .int .i64 c, .int .i64 d] 48 (0, 0))).cell? ⟨w.heap.size, 3, none⟩ = some (.int .i64 d) := by rw [cell_of_row _ _ _ _ _ _ HF8.out]; rfl
      have hc18 : w2.cell? ⟨w.heap.size, 3, none⟩ = some (.int .i64 d) := by rw [cell_of_row _ _ _ _ _ _ HF6.out]; rfl
      have hl19 : w.heap.size < w2.heap.size := lt_of_block HF6.out
      have hl20 : ¬ w.heap.size = w2.heap.size := by omega
      go_wp2_with fail
      clear hc11 hc12 hc13 hc14 hc15 hc16 hc17 hc18 hl19 hl20
      refine (HT2.out (w2.alloc (.cells #[.int .i64 a, .int .i64 b, .int .i64 c, .int .i64 d] 48 (0, 0))) (HT.out.later HB10.out)).mono ?_
      rintro e w3 ⟨rfl, hb3⟩
      have HF21 := Lib.hid (blk_below HF8.out hb3)
      have HF22 := Lib.hid (blk_below HF9.out hb3)
      have HB23 := Lib.hid (HB10.out.trans (hb3.mono HB10.out.size))
      clear hb3 HB10 HF8 HF6 HF9
      have HF24 := Lib.hid (blk_alloc HF21.out (.cells #[.int .i64 0, .int .i64 0, .int .i64 0, .int .i64 0] 48 (0, 0)))
      have HF25 := Lib.hid (blk_alloc HF22.out (.cells #[.int .i64 0, .int .i64 0, .int .i64 0, .int .i64 0] 48 (0, 0)))
      have HF26 := Lib.hid (blk_new w3 (.cells #[.int .i64 0, .int .i64 0, .int .i64 0, .int .i64 0] 48 (0, 0)))
      have HB27 := Lib.hid (HB23.out.alloc HB23.out.size (.cells #[.int .i64 0, .int .i64 0, .int .i64 0, .int .i64 0] 48 (0, 0)))
      clear HB23
      go_wp2_with fail
      refine (HA.out (w3.alloc (.cells #[.int .i64 0, .int .i64 0, .int .i64 0, .int .i64 0] 48 (0, 0))) (HT.out.later HB27.out)).mono ?_
      rintro e w4 ⟨rfl, hb4⟩
      have HF28 := Lib.hid (blk_below HF24.out hb4)
      have HF29 := Lib.hid (blk_below HF25.out hb4)
      have HF30 := Lib.hid (blk_below HF26.out hb4)
      have HB31 := Lib.hid (HB27.out.trans (hb4.mono HB27.out.size))
      clear hb4 HB27 HF24 HF21 HF25 HF22 HF26
      go_wp2_with fail
      go_ret
      exact ⟨rfl, HB31.out⟩
  | false =>
    rw [show errH a b c d = 2 by unfold errH; rw [hk]; rfl] at HP
    generalize headD a b c d = D at HP hD
    clear hD hk hsz HX
    rcases hz with rfl | ⟨rfl, rfl, rfl, rfl, rfl⟩
    · have HPP := Lib.hid (fun (W : World) (h : Tab W) => HP2.out rfl W h)
      have hss : (S.toList == S.toList) = true := by simp
      clear HP2
      have HB1 := Lib.hid (Below.refl w.heap.size w)
      go_enter Tryd.func10, Tryd.ntmps10
      go_wp2_with fail
      have HF2 := Lib.hid (blk_new w (.cells #[.int .i64 a, .int .i64 b, .int .i64 c, .int .i64 d] 48 (0, 0)))
      have HB3 := Lib.hid (HB1.out.alloc HB1.out.size (.cells #[.int .i64 a, .int .i64 b, .int .i64 c, .int .i64 d] 48 (0, 0)))
      clear HB1
      refine (HP.out (w.alloc (.cells #[.int .i64 a, .int .i64 b, .int .i64 c, .int .i64 d] 48 (0, 0))) (HT.out.later HB3.out)).mono ?_
      rintro e w1 ⟨rfl, hb1⟩
      have HF4 := Lib.hid (blk_below HF2.out hb1)
      have HB5 := Lib.hid (HB3.out.trans (hb1.mono HB3.out.size))
      clear hb1 HB3 HF2
      go_wp2_with fail
      refine (HT2.out w1 (HT.out.later HB5.out)).mono ?_
      rintro e w2 ⟨rfl, hb2⟩
      have HF6 := Lib.hid (blk_below HF4.out hb2)
      have HB7 := Lib.hid (HB5.out.trans (hb2.mono HB5.out.size))
      clear hb2 HB5 HF4
      have HF8 := Lib.hid (blk_alloc HF6.out (.cells #[.int .i64 a2, .int .i64 b2, .int .i64 c2, .int .i64 d2] 48 (0, 0)))
      have HF9 := Lib.hid (blk_new w2 (.cells #[.int .i64 a2, .int .i64 b2, .int .i64 c2, .int .i64 d2] 48 (0, 0)))
      have HB10 := Lib.hid (HB7.out.alloc HB7.out.size (.cells #[.int .i64 a2, .int .i64 b2, .int .i64 c2, .int .i64 d2] 48 (0, 0)))
      clear HB7
      go_wp2_with fail
      refine (HPP.out (w2.alloc (.cells #[.int .i64 a2, .int .i64 b2, .int .i64 c2, .int .i64 d2] 48 (0, 0))) (HT.out.later HB10.out)).mono ?_
      rintro e w3 ⟨rfl, hb3⟩
      have HF11 := Lib.hid (blk_below HF8.out hb3)
      have HF12 := Lib.hid (blk_below HF9.out hb3)
      have HB13 := Lib.hid (HB10.out.trans (hb3.mono HB10.out.size))
      clear hb3 HB10 HF8 HF6 HF9
      go_wp2_with fail
      refine (HA.out w3 (HT.out.later HB13.out)).mono ?_
      rintro e w4 ⟨rfl, hb4⟩
      have HF14 := Lib.hid (blk_below HF11.out hb4)
      have HF15 := Lib.hid (blk_below HF12.out hb4)
      have HB16 := Lib.hid (HB13.out.trans (hb4.mono HB13.out.size))
      clear hb4 HB13 HF11 HF12
      go_wp2_with fail
      go_ret
      exact ⟨rfl, HB16.out⟩
    · clear HP2
      have HB1 := Lib.hid (Below.refl w.heap.size w)
      go_enter Tryd.func10, Tryd.ntmps10
      go_wp2_with fail
      have HF2 := Lib.hid (blk_new w (.cells #[.int .i64 a, .int .i64 b, .int .i64 c, .int .i64 d] 48 (0, 0)))
      have HB3 := Lib.hid (HB1.out.alloc HB1.out.size (.cells #[.int .i64 a, .int .i64 b, .int .i64 c, .int .i64 d] 48 (0, 0)))
      clear HB1
      refine (HP.out (w.alloc (.cells #[.int .i64 a, .int .i64 b, .int .i64 c, .int .i64 d] 48 (0, 0))) (HT.out.later HB3.out)).mono ?_
      rintro e w1 ⟨rfl, hb1⟩
      have HF4 := Lib.hid (blk_below HF2.out hb1)
      have HB5 := Lib.hid (HB3.out.trans (hb1.mono HB3.out.size))
      clear hb1 HB3 HF2
      go_wp2_with fail
      refine (HT2.out w1 (HT.out.later HB5.out)).mono ?_
      rintro e w2 ⟨rfl, hb2⟩
      have HF6 := Lib.hid (blk_below HF4.out hb2)
      have HB7 := Lib.hid (HB5.out.trans (hb2.mono HB5.out.size))
      clear hb2 HB5 HF4
      have HF8 := Lib.hid (blk_alloc HF6.out (.cells #[.int .i64 0, .int .i64 0, .int .i64 0, .int .i64 0] 48 (0, 0)))
      have HF9 := Lib.hid (blk_new w2 (.cells #[.int .i64 0, .int .i64 0, .int .i64 0, .int .i64 0] 48 (0, 0)))
      have HB10 := Lib.hid (HB7.out.alloc HB7.out.size (.cells #[.int .i64 0, .int .i64 0, .int .i64 0, .int .i64 0] 48 (0, 0)))
      clear HB7
      go_wp2_with fail
      refine (HA.out (w2.alloc (.cells #[.int .i64 0, .int .i64 0, .int .i64 0, .int .i64 0] 48 (0, 0))) (HT.out.later HB10.out)).mono ?_
      rintro e w3 ⟨rfl, hb3⟩
      have HF11 := Lib.hid (blk_below HF8.out hb3)
      have HF12 := Lib.hid (blk_below HF9.out hb3)
      have HB13 := Lib.hid (HB10.out.trans (hb3.mono HB10.out.size))
      clear hb3 HB10 HF8 HF6 HF9
      go_wp2_with fail
      go_ret
      exact ⟨rfl, HB13.out⟩
set_option maxRecDepth 100000 in
theorem walk (a b c d : Int) (S : ByteArray) (w : World) (hT : Tab w) (hs1 : (S.size : Int) ≤ 9223372036854775807) (ha : a ≤ 9223372036854775807) (hb : b ≤ 9223372036854775807) (hc : c ≤ 9223372036854775807) (hd : d ≤ 9223372036854775807) :
    Calls Tryd.prog 10 #[.agg #[.int .i64 a, .int .i64 b, .int .i64 c, .int .i64 d], .string S] w fun e w' => e = .returned (.bool true) ∧ Below w.heap.size w w' := by
  by_cases h1 : S.size ≤ 1000
  · exact walk_few a b c d S w hT h1 ha hb hc hd
  · have hd1 : decide ((1000 : Int) < (S.size : Int)) = true := decide_eq_true (by omega)
    have HT := Lib.hid hT
    have HA := Lib.hid (fun (W : World) (h : Tab W) => awake08 W h)
    clear h1 hT ha hb hc hd
    have HB1 := Lib.hid (Below.refl w.heap.size w)
    go_enter Tryd.func10, Tryd.ntmps10
    go_wp2_with fail
    have HF2 := Lib.hid (blk_new w (.cells #[.int .i64 a, .int .i64 b, .int .i64 c, .int .i64 d] 48 (0, 0)))
    have HB3 := Lib.hid (HB1.out.alloc HB1.out.size (.cells #[.int .i64 a, .int .i64 b, .int .i64 c, .int .i64 d] 48 (0, 0)))
    clear HB1
    refine (HA.out (w.alloc (.cells #[.int .i64 a, .int .i64 b, .int .i64 c, .int .i64 d] 48 (0, 0))) (HT.out.later HB3.out)).mono ?_
    rintro e w1 ⟨rfl, hb1⟩
    have HF4 := Lib.hid (blk_below HF2.out hb1)
    have HB5 := Lib.hid (HB3.out.trans (hb1.mono HB3.out.size))
    clear hb1 HB3 HF2
    go_wp2_with fail
    go_ret
    exact ⟨rfl, HB5.out⟩
end Go.Proofs.YtcgoegehgcecpaaDoor.LSeatBack
