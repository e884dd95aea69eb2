/- The walk of ValueBack over this translation. Conditions: what the library's variables hold. -/
import Derived.Test.YtpiafgdbjpfcaaaDoorRows
import Derived.Test.YtpiafgdbjpfcaaaDoorWk
import Derived.Test.YtpiafgdbjpfcaaaDoorWy
namespace Go.Proofs.YtpiafgdbjpfcaaaDoor.LValueBack
open Go.RowKit Vi Hm

theorem put_small (k n : Int) (t : ByteArray) (hv : vok k n t = true) (ht : t.size ≤ 1000) : (vput k n t).size ≤ 2000 := by
  have hl := congrArg List.length (vput_list k n t hv)
  have hs : (vput k n t).data.toList.length = (vput k n t).size := by simp
  rw [hs, List.length_cons] at hl
  have h1 := put_len (zig n)
  have h2 := put_len t.size
  have hr : (vrest k n t).data.toList.length ≤ 1100 := by
    unfold vrest
    split
    · show 1 ≤ 1100
      omega
    · split
      · show (put (zig n)).toArray.toList.length ≤ 1100
        rw [List.toList_toArray]; omega
      · rw [app_data, List.length_append]
        have : t.data.toList.length = t.size := by simp
        show (put t.size).toArray.toList.length + _ ≤ 1100
        rw [List.toList_toArray]; omega
  omega
theorem show_small (k n : Int) (t : ByteArray) (hv : vok k n t = true) (ht : t.size ≤ 1000) (hr : NR n) : (vshow k n t).size ≤ 4000 := by
  rcases vok_cases hv with ⟨rfl, rfl, rfl⟩ | ⟨rfl, rfl, rfl⟩ | ⟨rfl, rfl⟩ | ⟨rfl, rfl, h64⟩
  · rw [show_1 0 false rfl hv]; decide
  · rw [show_1 1 true rfl hv]; decide
  · rw [show_2]
    have := (itoa_len n hr).2
    show (Lib.itoa n).toArray.size ≤ _
    rw [List.size_toArray]; omega
  · rw [show_3 t h64]
    split
    · rw [ByteArray.size_append]
      have : (⟨#[39]⟩ : ByteArray).size = 1 := rfl
      omega
    · rw [ByteArray.size_append]
      have h1 : (⟨#[35]⟩ : ByteArray).size = 1 := rfl
      have h2 : (⟨(hexL t.data.toList).toArray⟩ : ByteArray).size = 2 * t.size := by
        show (hexL t.data.toList).toArray.size = _
        rw [List.size_toArray, hexL_len]; simp
      omega
set_option maxHeartbeats 8000000 in
set_option maxRecDepth 100000 in
theorem walk (k n : Int) (t S : ByteArray) (w : World) (hT : VT w) (hr : NR n) :
    Calls Tryd.prog 4 #[.agg #[.int .i64 k, .int .i64 n, .string t], .string S] w fun e w' => e = .returned (.bool true) ∧ Below w.heap.size w w' := by
  have HT := Lib.hid hT
  clear hT
  by_cases h1 : t.size ≤ 1000
  · have hd : decide ((1000 : Int) < (t.size : Int)) = false := decide_eq_false (by omega)
    by_cases h2 : S.size ≤ 1000
    · have hd2 : decide ((1000 : Int) < (S.size : Int)) = false := decide_eq_false (by omega)
      have HTK := Lib.hid (fun W : World => vtake_any S W (by omega))
      have HCK := Lib.hid (fun W : World => vcheck_any k n t W)
      obtain ⟨k2, n2, t2, hv2⟩ : ∃ a b c, tkV S = (a, b, c) := ⟨_, _, _, rfl⟩
      obtain ⟨f, hf⟩ : ∃ f, tkE S = f := ⟨_, rfl⟩
      have hof := fun h => tk_of S k2 n2 t2 h hv2
      rw [hf] at hof
      rw [hv2, hf] at HTK
      unfold vvv at HTK
      dsimp only at HTK
      clear hv2 hf
      by_cases hz : f = 0
      · subst hz
        cases hv : vok k n t with
        | true =>
          obtain ⟨o1, o2, o3, o4, o5⟩ := hof rfl
          have HP2 := Lib.hid (fun W : World => vput_any k2 n2 t2 W o3 o4 (by omega))
          unfold VPut at HP2
          rw [o2, errV_yes o1] at HP2
          clear hof o1 o2 o3 o4 o5
          have hss : (S.toList == S.toList) = true := by simp
          have hss2 : (S.toList != S.toList) = false := by simp
          rw [errV_yes hv] at HCK
          have HP := Lib.hid (fun W : World => vput_any k n t W hr.1 hr.2 (by omega))
          unfold VPut at HP
          rw [errV_yes hv] at HP
          have hps := put_small k n t hv h1
          have hqs := show_small k n t hv h1 hr
          obtain ⟨x1, x2⟩ := tk_is k n t hr.1 hr.2 hv
          obtain ⟨y1, y2⟩ := pv_yes k n t hr.1 hr.2 hv
          have HSH := Lib.hid (fun (W : World) (h : PowT W) => vshow_any k n t W hr.1 hr.2 (by omega) h)
          have HTP := Lib.hid (fun W : World => vtake_any (vput k n t) W (by omega))
          have HPA := Lib.hid (fun (W : World) (h : VT W) => vparse_any (vshow k n t) W (by omega) h)
          have hE : pvE (vshow k n t) = 0 := by unfold pvE; rw [if_pos y1]
          rw [x1, x2] at HTP
          rw [hE, y2] at HPA
          unfold vvv at HTP HPA
          dsimp only at HTP HPA
          generalize vput k n t = Pb at HP HTP
          generalize vshow k n t = Q at HSH HPA
          clear hv hps hqs x1 x2 y1 y2 hE h1 h2 hr
          have HB1 := Lib.hid (Below.refl w.heap.size w)
          go_enter Tryd.func4, Tryd.ntmps4
          have HF2 := Lib.hid (blk_new w (.cells #[.int .i64 k, .int .i64 n, .string t] 24 (0, 0)))
          have HB3 := Lib.hid (HB1.out.alloc HB1.out.size (.cells #[.int .i64 k, .int .i64 n, .string t] 24 (0, 0)))
          clear HB1
          have hc4 : (w.alloc (.cells #[.int .i64 k, .int .i64 n, .string t] 24 (0, 0))).cell? ⟨w.heap.size, 0, none⟩ = some (.int .i64 k) := by rw [cell_of_row _ _ _ _ _ _ HF2.out]; rfl
          have hc5 : (w.alloc (.cells #[.int .i64 k, .int .i64 n, .string t] 24 (0, 0))).cell? ⟨w.heap.size, 1, none⟩ = some (.int .i64 n) := by rw [cell_of_row _ _ _ _ _ _ HF2.out]; rfl
          have hc6 : (w.alloc (.cells #[.int .i64 k, .int .i64 n, .string t] 24 (0, 0))).cell? ⟨w.heap.size, 2, none⟩ = some (.string t) := by rw [cell_of_row _ _ _ _ _ _ HF2.out]; rfl
          go_wp2_with fail
          refine (HTK.out (w.alloc (.cells #[.int .i64 k, .int .i64 n, .string t] 24 (0, 0)))).mono ?_
          rintro e w1 ⟨rfl, hb1⟩
          clear hc4 hc5 hc6
          have HF7 := Lib.hid (blk_below HF2.out hb1)
          have HB8 := Lib.hid (HB3.out.trans (hb1.mono HB3.out.size))
          clear hb1 HB3 HF2
          have hk9 : w.heap.size < w1.heap.size := lt_of_block HF7.out
          have HF10 := Lib.hid (blk_alloc HF7.out (.cells #[.int .i64 k2, .int .i64 n2, .string t2] 24 (0, 0)))
          have HF11 := Lib.hid (blk_new w1 (.cells #[.int .i64 k2, .int .i64 n2, .string t2] 24 (0, 0)))
          have HB12 := Lib.hid (HB8.out.alloc HB8.out.size (.cells #[.int .i64 k2, .int .i64 n2, .string t2] 24 (0, 0)))
          clear HB8
          have hc13 : (w1.alloc (.cells #[.int .i64 k2, .int .i64 n2, .string t2] 24 (0, 0))).cell? ⟨w1.heap.size, 0, none⟩ = some (.int .i64 k2) := by rw [cell_of_row _ _ _ _ _ _ HF11.out]; rfl
          have hc14 : (w1.alloc (.cells #[.int .i64 k2, .int .i64 n2, .string t2] 24 (0, 0))).cell? ⟨w1.heap.size, 1, none⟩ = some (.int .i64 n2) := by rw [cell_of_row _ _ _ _ _ _ HF11.out]; rfl
          have hc15 : (w1.alloc (.cells #[.int .i64 k2, .int .i64 n2, .string t2] 24 (0, 0))).cell? ⟨w1.heap.size, 2, none⟩ = some (.string t2) := by rw [cell_of_row _ _ _ _ _ _ HF11.out]; rfl
          have hc16 : (w1.alloc (.cells #[.int .i64 k2, .int .i64 n2, .string t2] 24 (0, 0))).cell? ⟨w.heap.size, 0, none⟩ = some (.int .i64 k) := by rw [cell_of_row _ _ _ _ _ _ HF10.out]; rfl
          have hc17 : w1.cell? ⟨w.heap.size, 0, none⟩ = some (.int .i64 k) := by rw [cell_of_row _ _ _ _ _ _ HF7.out]; rfl
          have hc18 : (w1.alloc (.cells #[.int .i64 k2, .int .i64 n2, .string t2] 24 (0, 0))).cell? ⟨w.heap.size, 1, none⟩ = some (.int .i64 n) := by rw [cell_of_row _ _ _ _ _ _ HF10.out]; rfl
          have hc19 : w1.cell? ⟨w.heap.size, 1, none⟩ = some (.int .i64 n) := by rw [cell_of_row _ _ _ _ _ _ HF7.out]; rfl
          have hc20 : (w1.alloc (.cells #[.int .i64 k2, .int .i64 n2, .string t2] 24 (0, 0))).cell? ⟨w.heap.size, 2, none⟩ = some (.string t) := by rw [cell_of_row _ _ _ _ _ _ HF10.out]; rfl
          have hc21 : w1.cell? ⟨w.heap.size, 2, none⟩ = some (.string t) := by rw [cell_of_row _ _ _ _ _ _ HF7.out]; rfl
          have hl22 : w.heap.size < w1.heap.size := lt_of_block HF7.out
          have hl23 : ¬ w.heap.size = w1.heap.size := by omega
          go_wp2_with fail
          refine (HP2.out (w1.alloc (.cells #[.int .i64 k2, .int .i64 n2, .string t2] 24 (0, 0)))).mono ?_
          rintro e w2 ⟨rfl, hb2⟩
          clear hc13 hc14 hc15 hc16 hc17 hc18 hc19 hc20 hc21 hl22 hl23
          have HF24 := Lib.hid (blk_below HF10.out hb2)
          have HF25 := Lib.hid (blk_below HF11.out hb2)
          have HB26 := Lib.hid (HB12.out.trans (hb2.mono HB12.out.size))
          clear hb2 HB12 HF10 HF7 HF11
          have hc27 : w2.cell? ⟨w.heap.size, 0, none⟩ = some (.int .i64 k) := by rw [cell_of_row _ _ _ _ _ _ HF24.out]; rfl
          have hc28 : w2.cell? ⟨w.heap.size, 1, none⟩ = some (.int .i64 n) := by rw [cell_of_row _ _ _ _ _ _ HF24.out]; rfl
          have hc29 : w2.cell? ⟨w.heap.size, 2, none⟩ = some (.string t) := by rw [cell_of_row _ _ _ _ _ _ HF24.out]; rfl
          go_wp2_with fail
          refine (HCK.out w2).mono ?_
          rintro e w3 ⟨rfl, hb3⟩
          clear hc27 hc28 hc29
          have HF30 := Lib.hid (blk_below HF24.out hb3)
          have HF31 := Lib.hid (blk_below HF25.out hb3)
          have HB32 := Lib.hid (HB26.out.trans (hb3.mono HB26.out.size))
          clear hb3 HB26 HF24 HF25
          have hc33 : w3.cell? ⟨w.heap.size, 0, none⟩ = some (.int .i64 k) := by rw [cell_of_row _ _ _ _ _ _ HF30.out]; rfl
          have hc34 : w3.cell? ⟨w.heap.size, 1, none⟩ = some (.int .i64 n) := by rw [cell_of_row _ _ _ _ _ _ HF30.out]; rfl
          have hc35 : w3.cell? ⟨w.heap.size, 2, none⟩ = some (.string t) := by rw [cell_of_row _ _ _ _ _ _ HF30.out]; rfl
          go_wp2_with fail
          refine (HP.out w3).mono ?_
          rintro e w4 ⟨rfl, hb4⟩
          clear hc33 hc34 hc35
          have HF36 := Lib.hid (blk_below HF30.out hb4)
          have HF37 := Lib.hid (blk_below HF31.out hb4)
          have HB38 := Lib.hid (HB32.out.trans (hb4.mono HB32.out.size))
          clear hb4 HB32 HF30 HF31
          go_wp2_with fail
          refine (HTP.out w4).mono ?_
          rintro e w5 ⟨rfl, hb5⟩
          have HF39 := Lib.hid (blk_below HF36.out hb5)
          have HF40 := Lib.hid (blk_below HF37.out hb5)
          have HB41 := Lib.hid (HB38.out.trans (hb5.mono HB38.out.size))
          clear hb5 HB38 HF36 HF37
          have hk42 : w.heap.size < w5.heap.size := lt_of_block HF39.out
          have hk43 : w1.heap.size < w5.heap.size := lt_of_block HF40.out
          have HF44 := Lib.hid (blk_alloc HF39.out (.cells #[.int .i64 k, .int .i64 n, .string t] 24 (0, 0)))
          have HF45 := Lib.hid (blk_alloc HF40.out (.cells #[.int .i64 k, .int .i64 n, .string t] 24 (0, 0)))
          have HF46 := Lib.hid (blk_new w5 (.cells #[.int .i64 k, .int .i64 n, .string t] 24 (0, 0)))
          have HB47 := Lib.hid (HB41.out.alloc HB41.out.size (.cells #[.int .i64 k, .int .i64 n, .string t] 24 (0, 0)))
          clear HB41
          have hc48 : (w5.alloc (.cells #[.int .i64 k, .int .i64 n, .string t] 24 (0, 0))).cell? ⟨w.heap.size, 0, none⟩ = some (.int .i64 k) := by rw [cell_of_row _ _ _ _ _ _ HF44.out]; rfl
          have hc49 : w5.cell? ⟨w.heap.size, 0, none⟩ = some (.int .i64 k) := by rw [cell_of_row _ _ _ _ _ _ HF39.out]; rfl
          have hc50 : (w5.alloc (.cells #[.int .i64 k, .int .i64 n, .string t] 24 (0, 0))).cell? ⟨w.heap.size, 1, none⟩ = some (.int .i64 n) := by rw [cell_of_row _ _ _ _ _ _ HF44.out]; rfl
          have hc51 : w5.cell? ⟨w.heap.size, 1, none⟩ = some (.int .i64 n) := by rw [cell_of_row _ _ _ _ _ _ HF39.out]; rfl
          have hc52 : (w5.alloc (.cells #[.int .i64 k, .int .i64 n, .string t] 24 (0, 0))).cell? ⟨w.heap.size, 2, none⟩ = some (.string t) := by rw [cell_of_row _ _ _ _ _ _ HF44.out]; rfl
          have hc53 : w5.cell? ⟨w.heap.size, 2, none⟩ = some (.string t) := by rw [cell_of_row _ _ _ _ _ _ HF39.out]; rfl
          have hl54 : w.heap.size < w5.heap.size := lt_of_block HF39.out
          have hl55 : ¬ w.heap.size = w5.heap.size := by omega
          go_wp2_with fail
          refine (HSH.out (w5.alloc (.cells #[.int .i64 k, .int .i64 n, .string t] 24 (0, 0))) (HT.out.1.later HB47.out)).mono ?_
          rintro e w6 ⟨rfl, hb6⟩
          clear hc48 hc49 hc50 hc51 hc52 hc53 hl54 hl55
          have HF56 := Lib.hid (blk_below HF44.out hb6)
          have HF57 := Lib.hid (blk_below HF45.out hb6)
          have HF58 := Lib.hid (blk_below HF46.out hb6)
          have HB59 := Lib.hid (HB47.out.trans (hb6.mono HB47.out.size))
          clear hb6 HB47 HF44 HF39 HF45 HF40 HF46
          go_wp2_with fail
          refine (HPA.out w6 (HT.out.later HB59.out)).mono ?_
          rintro e w7 ⟨rfl, hb7⟩
          have HF60 := Lib.hid (blk_below HF56.out hb7)
          have HF61 := Lib.hid (blk_below HF57.out hb7)
          have HF62 := Lib.hid (blk_below HF58.out hb7)
          have HB63 := Lib.hid (HB59.out.trans (hb7.mono HB59.out.size))
          clear hb7 HB59 HF56 HF57 HF58
          have hk64 : w.heap.size < w7.heap.size := lt_of_block HF60.out
          have hk65 : w1.heap.size < w7.heap.size := lt_of_block HF61.out
          have hk66 : w5.heap.size < w7.heap.size := lt_of_block HF62.out
          have HF67 := Lib.hid (blk_alloc HF60.out (.cells #[.int .i64 k, .int .i64 n, .string t] 24 (0, 0)))
          have HF68 := Lib.hid (blk_alloc HF61.out (.cells #[.int .i64 k, .int .i64 n, .string t] 24 (0, 0)))
          have HF69 := Lib.hid (blk_alloc HF62.out (.cells #[.int .i64 k, .int .i64 n, .string t] 24 (0, 0)))
          have HF70 := Lib.hid (blk_new w7 (.cells #[.int .i64 k, .int .i64 n, .string t] 24 (0, 0)))
          have HB71 := Lib.hid (HB63.out.alloc HB63.out.size (.cells #[.int .i64 k, .int .i64 n, .string t] 24 (0, 0)))
          clear HB63
          have hc72 : (w7.alloc (.cells #[.int .i64 k, .int .i64 n, .string t] 24 (0, 0))).cell? ⟨w.heap.size, 0, none⟩ = some (.int .i64 k) := by rw [cell_of_row _ _ _ _ _ _ HF67.out]; rfl
          have hc73 : w7.cell? ⟨w.heap.size, 0, none⟩ = some (.int .i64 k) := by rw [cell_of_row _ _ _ _ _ _ HF60.out]; rfl
          have hc74 : (w7.alloc (.cells #[.int .i64 k, .int .i64 n, .string t] 24 (0, 0))).cell? ⟨w.heap.size, 1, none⟩ = some (.int .i64 n) := by rw [cell_of_row _ _ _ _ _ _ HF67.out]; rfl
          have hc75 : w7.cell? ⟨w.heap.size, 1, none⟩ = some (.int .i64 n) := by rw [cell_of_row _ _ _ _ _ _ HF60.out]; rfl
          have hc76 : (w7.alloc (.cells #[.int .i64 k, .int .i64 n, .string t] 24 (0, 0))).cell? ⟨w.heap.size, 2, none⟩ = some (.string t) := by rw [cell_of_row _ _ _ _ _ _ HF67.out]; rfl
          have hc77 : w7.cell? ⟨w.heap.size, 2, none⟩ = some (.string t) := by rw [cell_of_row _ _ _ _ _ _ HF60.out]; rfl
          have hl78 : w.heap.size < w7.heap.size := lt_of_block HF60.out
          have hl79 : ¬ w.heap.size = w7.heap.size := by omega
          have hc80 : (w7.alloc (.cells #[.int .i64 k, .int .i64 n, .string t] 24 (0, 0))).cell? ⟨w5.heap.size, 0, none⟩ = some (.int .i64 k) := by rw [cell_of_row _ _ _ _ _ _ HF69.out]; rfl
          have hc81 : w7.cell? ⟨w5.heap.size, 0, none⟩ = some (.int .i64 k) := by rw [cell_of_row _ _ _ _ _ _ HF62.out]; rfl
          have hc82 : (w7.alloc (.cells #[.int .i64 k, .int .i64 n, .string t] 24 (0, 0))).cell? ⟨w5.heap.size, 1, none⟩ = some (.int .i64 n) := by rw [cell_of_row _ _ _ _ _ _ HF69.out]; rfl
          have hc83 : w7.cell? ⟨w5.heap.size, 1, none⟩ = some (.int .i64 n) := by rw [cell_of_row _ _ _ _ _ _ HF62.out]; rfl
          have hc84 : (w7.alloc (.cells #[.int .i64 k, .int .i64 n, .string t] 24 (0, 0))).cell? ⟨w5.heap.size, 2, none⟩ = some (.string t) := by rw [cell_of_row _ _ _ _ _ _ HF69.out]; rfl
          have hc85 : w7.cell? ⟨w5.heap.size, 2, none⟩ = some (.string t) := by rw [cell_of_row _ _ _ _ _ _ HF62.out]; rfl
          have hl86 : w5.heap.size < w7.heap.size := lt_of_block HF62.out
          have hl87 : ¬ w5.heap.size = w7.heap.size := by omega
          have hc88 : (w7.alloc (.cells #[.int .i64 k, .int .i64 n, .string t] 24 (0, 0))).cell? ⟨w7.heap.size, 0, none⟩ = some (.int .i64 k) := by rw [cell_of_row _ _ _ _ _ _ HF70.out]; rfl
          have hc89 : (w7.alloc (.cells #[.int .i64 k, .int .i64 n, .string t] 24 (0, 0))).cell? ⟨w7.heap.size, 1, none⟩ = some (.int .i64 n) := by rw [cell_of_row _ _ _ _ _ _ HF70.out]; rfl
          have hc90 : (w7.alloc (.cells #[.int .i64 k, .int .i64 n, .string t] 24 (0, 0))).cell? ⟨w7.heap.size, 2, none⟩ = some (.string t) := by rw [cell_of_row _ _ _ _ _ _ HF70.out]; rfl
          go_wp2_with fail
          refine (awake06 (w7.alloc (.cells #[.int .i64 k, .int .i64 n, .string t] 24 (0, 0)))).mono ?_
          rintro e w8 ⟨rfl, hb8⟩
          clear hc72 hc73 hc74 hc75 hc76 hc77 hl78 hl79 hc80 hc81 hc82 hc83 hc84 hc85 hl86 hl87 hc88 hc89 hc90
          have HF91 := Lib.hid (blk_below HF67.out hb8)
          have HF92 := Lib.hid (blk_below HF68.out hb8)
          have HF93 := Lib.hid (blk_below HF69.out hb8)
          have HF94 := Lib.hid (blk_below HF70.out hb8)
          have HB95 := Lib.hid (HB71.out.trans (hb8.mono HB71.out.size))
          clear hb8 HB71 HF67 HF60 HF68 HF61 HF69 HF62 HF70
          go_wp2_with fail
          go_ret
          exact ⟨rfl, HB95.out⟩
        | false =>
          obtain ⟨o1, o2, o3, o4, o5⟩ := hof rfl
          have HP2 := Lib.hid (fun W : World => vput_any k2 n2 t2 W o3 o4 (by omega))
          unfold VPut at HP2
          rw [o2, errV_yes o1] at HP2
          clear hof o1 o2 o3 o4 o5
          have hss : (S.toList == S.toList) = true := by simp
          have hss2 : (S.toList != S.toList) = false := by simp
          rw [errV_no hv] at HCK
          clear hv h1 h2 hr
          have HB1 := Lib.hid (Below.refl w.heap.size w)
          go_enter Tryd.func4, Tryd.ntmps4
          have HF2 := Lib.hid (blk_new w (.cells #[.int .i64 k, .int .i64 n, .string t] 24 (0, 0)))
          have HB3 := Lib.hid (HB1.out.alloc HB1.out.size (.cells #[.int .i64 k, .int .i64 n, .string t] 24 (0, 0)))
          clear HB1
          have hc4 : (w.alloc (.cells #[.int .i64 k, .int .i64 n, .string t] 24 (0, 0))).cell? ⟨w.heap.size, 0, none⟩ = some (.int .i64 k) := by rw [cell_of_row _ _ _ _ _ _ HF2.out]; rfl
          have hc5 : (w.alloc (.cells #[.int .i64 k, .int .i64 n, .string t] 24 (0, 0))).cell? ⟨w.heap.size, 1, none⟩ = some (.int .i64 n) := by rw [cell_of_row _ _ _ _ _ _ HF2.out]; rfl
          have hc6 : (w.alloc (.cells #[.int .i64 k, .int .i64 n, .string t] 24 (0, 0))).cell? ⟨w.heap.size, 2, none⟩ = some (.string t) := by rw [cell_of_row _ _ _ _ _ _ HF2.out]; rfl
          go_wp2_with fail
          refine (HTK.out (w.alloc (.cells #[.int .i64 k, .int .i64 n, .string t] 24 (0, 0)))).mono ?_
          rintro e w1 ⟨rfl, hb1⟩
          clear hc4 hc5 hc6
          have HF7 := Lib.hid (blk_below HF2.out hb1)
          have HB8 := Lib.hid (HB3.out.trans (hb1.mono HB3.out.size))
          clear hb1 HB3 HF2
          have hk9 : w.heap.size < w1.heap.size := lt_of_block HF7.out
          have HF10 := Lib.hid (blk_alloc HF7.out (.cells #[.int .i64 k2, .int .i64 n2, .string t2] 24 (0, 0)))
          have HF11 := Lib.hid (blk_new w1 (.cells #[.int .i64 k2, .int .i64 n2, .string t2] 24 (0, 0)))
          have HB12 := Lib.hid (HB8.out.alloc HB8.out.size (.cells #[.int .i64 k2, .int .i64 n2, .string t2] 24 (0, 0)))
          clear HB8
          have hc13 : (w1.alloc (.cells #[.int .i64 k2, .int .i64 n2, .string t2] 24 (0, 0))).cell? ⟨w1.heap.size, 0, none⟩ = some (.int .i64 k2) := by rw [cell_of_row _ _ _ _ _ _ HF11.out]; rfl
          have hc14 : (w1.alloc (.cells #[.int .i64 k2, .int .i64 n2, .string t2] 24 (0, 0))).cell? ⟨w1.heap.size, 1, none⟩ = some (.int .i64 n2) := by rw [cell_of_row _ _ _ _ _ _ HF11.out]; rfl
          have hc15 : (w1.alloc (.cells #[.int .i64 k2, .int .i64 n2, .string t2] 24 (0, 0))).cell? ⟨w1.heap.size, 2, none⟩ = some (.string t2) := by rw [cell_of_row _ _ _ _ _ _ HF11.out]; rfl
          have hc16 : (w1.alloc (.cells #[.int .i64 k2, .int .i64 n2, .string t2] 24 (0, 0))).cell? ⟨w.heap.size, 0, none⟩ = some (.int .i64 k) := by rw [cell_of_row _ _ _ _ _ _ HF10.out]; rfl
          have hc17 : w1.cell? ⟨w.heap.size, 0, none⟩ = some (.int .i64 k) := by rw [cell_of_row _ _ _ _ _ _ HF7.out]; rfl
          have hc18 : (w1.alloc (.cells #[.int .i64 k2, .int .i64 n2, .string t2] 24 (0, 0))).cell? ⟨w.heap.size, 1, none⟩ = some (.int .i64 n) := by rw [cell_of_row _ _ _ _ _ _ HF10.out]; rfl
          have hc19 : w1.cell? ⟨w.heap.size, 1, none⟩ = some (.int .i64 n) := by rw [cell_of_row _ _ _ _ _ _ HF7.out]; rfl
          have hc20 : (w1.alloc (.cells #[.int .i64 k2, .int .i64 n2, .string t2] 24 (0, 0))).cell? ⟨w.heap.size, 2, none⟩ = some (.string t) := by rw [cell_of_row _ _ _ _ _ _ HF10.out]; rfl
          have hc21 : w1.cell? ⟨w.heap.size, 2, none⟩ = some (.string t) := by rw [cell_of_row _ _ _ _ _ _ HF7.out]; rfl
          have hl22 : w.heap.size < w1.heap.size := lt_of_block HF7.out
          have hl23 : ¬ w.heap.size = w1.heap.size := by omega
          go_wp2_with fail
          refine (HP2.out (w1.alloc (.cells #[.int .i64 k2, .int .i64 n2, .string t2] 24 (0, 0)))).mono ?_
          rintro e w2 ⟨rfl, hb2⟩
          clear hc13 hc14 hc15 hc16 hc17 hc18 hc19 hc20 hc21 hl22 hl23
          have HF24 := Lib.hid (blk_below HF10.out hb2)
          have HF25 := Lib.hid (blk_below HF11.out hb2)
          have HB26 := Lib.hid (HB12.out.trans (hb2.mono HB12.out.size))
          clear hb2 HB12 HF10 HF7 HF11
          have hc27 : w2.cell? ⟨w.heap.size, 0, none⟩ = some (.int .i64 k) := by rw [cell_of_row _ _ _ _ _ _ HF24.out]; rfl
          have hc28 : w2.cell? ⟨w.heap.size, 1, none⟩ = some (.int .i64 n) := by rw [cell_of_row _ _ _ _ _ _ HF24.out]; rfl
          have hc29 : w2.cell? ⟨w.heap.size, 2, none⟩ = some (.string t) := by rw [cell_of_row _ _ _ _ _ _ HF24.out]; rfl
          go_wp2_with fail
          refine (HCK.out w2).mono ?_
          rintro e w3 ⟨rfl, hb3⟩
          clear hc27 hc28 hc29
          have HF30 := Lib.hid (blk_below HF24.out hb3)
          have HF31 := Lib.hid (blk_below HF25.out hb3)
          have HB32 := Lib.hid (HB26.out.trans (hb3.mono HB26.out.size))
          clear hb3 HB26 HF24 HF25
          have hc33 : w3.cell? ⟨w.heap.size, 0, none⟩ = some (.int .i64 k) := by rw [cell_of_row _ _ _ _ _ _ HF30.out]; rfl
          have hc34 : w3.cell? ⟨w.heap.size, 1, none⟩ = some (.int .i64 n) := by rw [cell_of_row _ _ _ _ _ _ HF30.out]; rfl
          have hc35 : w3.cell? ⟨w.heap.size, 2, none⟩ = some (.string t) := by rw [cell_of_row _ _ _ _ _ _ HF30.out]; rfl
          go_wp2_with fail
          refine (awake06 w3).mono ?_
          rintro e w4 ⟨rfl, hb4⟩
          clear hc33 hc34 hc35
          have HF36 := Lib.hid (blk_below HF30.out hb4)
          have HF37 := Lib.hid (blk_below HF31.out hb4)
          have HB38 := Lib.hid (HB32.out.trans (hb4.mono HB32.out.size))
          clear hb4 HB32 HF30 HF31
          go_wp2_with fail
          go_ret
          exact ⟨rfl, HB38.out⟩
      · cases hv : vok k n t with
        | true =>
          have hn1 : (f == 0) = false := by rw [beq_eq_false_iff_ne]; exact hz
          have hn2 : (f != 0) = true := by rw [bne, hn1]; rfl
          clear hof hz
          rw [errV_yes hv] at HCK
          have HP := Lib.hid (fun W : World => vput_any k n t W hr.1 hr.2 (by omega))
          unfold VPut at HP
          rw [errV_yes hv] at HP
          have hps := put_small k n t hv h1
          have hqs := show_small k n t hv h1 hr
          obtain ⟨x1, x2⟩ := tk_is k n t hr.1 hr.2 hv
          obtain ⟨y1, y2⟩ := pv_yes k n t hr.1 hr.2 hv
          have HSH := Lib.hid (fun (W : World) (h : PowT W) => vshow_any k n t W hr.1 hr.2 (by omega) h)
          have HTP := Lib.hid (fun W : World => vtake_any (vput k n t) W (by omega))
          have HPA := Lib.hid (fun (W : World) (h : VT W) => vparse_any (vshow k n t) W (by omega) h)
          have hE : pvE (vshow k n t) = 0 := by unfold pvE; rw [if_pos y1]
          rw [x1, x2] at HTP
          rw [hE, y2] at HPA
          unfold vvv at HTP HPA
          dsimp only at HTP HPA
          generalize vput k n t = Pb at HP HTP
          generalize vshow k n t = Q at HSH HPA
          clear hv hps hqs x1 x2 y1 y2 hE h1 h2 hr
          have HB1 := Lib.hid (Below.refl w.heap.size w)
          go_enter Tryd.func4, Tryd.ntmps4
          have HF2 := Lib.hid (blk_new w (.cells #[.int .i64 k, .int .i64 n, .string t] 24 (0, 0)))
          have HB3 := Lib.hid (HB1.out.alloc HB1.out.size (.cells #[.int .i64 k, .int .i64 n, .string t] 24 (0, 0)))
          clear HB1
          have hc4 : (w.alloc (.cells #[.int .i64 k, .int .i64 n, .string t] 24 (0, 0))).cell? ⟨w.heap.size, 0, none⟩ = some (.int .i64 k) := by rw [cell_of_row _ _ _ _ _ _ HF2.out]; rfl
          have hc5 : (w.alloc (.cells #[.int .i64 k, .int .i64 n, .string t] 24 (0, 0))).cell? ⟨w.heap.size, 1, none⟩ = some (.int .i64 n) := by rw [cell_of_row _ _ _ _ _ _ HF2.out]; rfl
          have hc6 : (w.alloc (.cells #[.int .i64 k, .int .i64 n, .string t] 24 (0, 0))).cell? ⟨w.heap.size, 2, none⟩ = some (.string t) := by rw [cell_of_row _ _ _ _ _ _ HF2.out]; rfl
          go_wp2_with fail
          refine (HTK.out (w.alloc (.cells #[.int .i64 k, .int .i64 n, .string t] 24 (0, 0)))).mono ?_
          rintro e w1 ⟨rfl, hb1⟩
          clear hc4 hc5 hc6
          have HF7 := Lib.hid (blk_below HF2.out hb1)
          have HB8 := Lib.hid (HB3.out.trans (hb1.mono HB3.out.size))
          clear hb1 HB3 HF2
          have hk9 : w.heap.size < w1.heap.size := lt_of_block HF7.out
          have HF10 := Lib.hid (blk_alloc HF7.out (.cells #[.int .i64 k2, .int .i64 n2, .string t2] 24 (0, 0)))
          have HF11 := Lib.hid (blk_new w1 (.cells #[.int .i64 k2, .int .i64 n2, .string t2] 24 (0, 0)))
          have HB12 := Lib.hid (HB8.out.alloc HB8.out.size (.cells #[.int .i64 k2, .int .i64 n2, .string t2] 24 (0, 0)))
          clear HB8
          have hc13 : (w1.alloc (.cells #[.int .i64 k2, .int .i64 n2, .string t2] 24 (0, 0))).cell? ⟨w.heap.size, 0, none⟩ = some (.int .i64 k) := by rw [cell_of_row _ _ _ _ _ _ HF10.out]; rfl
          have hc14 : w1.cell? ⟨w.heap.size, 0, none⟩ = some (.int .i64 k) := by rw [cell_of_row _ _ _ _ _ _ HF7.out]; rfl
          have hc15 : (w1.alloc (.cells #[.int .i64 k2, .int .i64 n2, .string t2] 24 (0, 0))).cell? ⟨w.heap.size, 1, none⟩ = some (.int .i64 n) := by rw [cell_of_row _ _ _ _ _ _ HF10.out]; rfl
          have hc16 : w1.cell? ⟨w.heap.size, 1, none⟩ = some (.int .i64 n) := by rw [cell_of_row _ _ _ _ _ _ HF7.out]; rfl
          have hc17 : (w1.alloc (.cells #[.int .i64 k2, .int .i64 n2, .string t2] 24 (0, 0))).cell? ⟨w.heap.size, 2, none⟩ = some (.string t) := by rw [cell_of_row _ _ _ _ _ _ HF10.out]; rfl
          have hc18 : w1.cell? ⟨w.heap.size, 2, none⟩ = some (.string t) := by rw [cell_of_row _ _ _ _ _ _ HF7.out]; rfl
          have hl19 : w.heap.size < w1.heap.size := lt_of_block HF7.out
          have hl20 : ¬ w.heap.size = w1.heap.size := by omega
          go_wp2_with fail
          refine (HCK.out (w1.alloc (.cells #[.int .i64 k2, .int .i64 n2, .string t2] 24 (0, 0)))).mono ?_
          rintro e w2 ⟨rfl, hb2⟩
          clear hc13 hc14 hc15 hc16 hc17 hc18 hl19 hl20
          have HF21 := Lib.hid (blk_below HF10.out hb2)
          have HF22 := Lib.hid (blk_below HF11.out hb2)
          have HB23 := Lib.hid (HB12.out.trans (hb2.mono HB12.out.size))
          clear hb2 HB12 HF10 HF7 HF11
          have hc24 : w2.cell? ⟨w.heap.size, 0, none⟩ = some (.int .i64 k) := by rw [cell_of_row _ _ _ _ _ _ HF21.out]; rfl
          have hc25 : w2.cell? ⟨w.heap.size, 1, none⟩ = some (.int .i64 n) := by rw [cell_of_row _ _ _ _ _ _ HF21.out]; rfl
          have hc26 : w2.cell? ⟨w.heap.size, 2, none⟩ = some (.string t) := by rw [cell_of_row _ _ _ _ _ _ HF21.out]; rfl
          go_wp2_with fail
          refine (HP.out w2).mono ?_
          rintro e w3 ⟨rfl, hb3⟩
          clear hc24 hc25 hc26
          have HF27 := Lib.hid (blk_below HF21.out hb3)
          have HF28 := Lib.hid (blk_below HF22.out hb3)
          have HB29 := Lib.hid (HB23.out.trans (hb3.mono HB23.out.size))
          clear hb3 HB23 HF21 HF22
          go_wp2_with fail
          refine (HTP.out w3).mono ?_
          rintro e w4 ⟨rfl, hb4⟩
          have HF30 := Lib.hid (blk_below HF27.out hb4)
          have HF31 := Lib.hid (blk_below HF28.out hb4)
          have HB32 := Lib.hid (HB29.out.trans (hb4.mono HB29.out.size))
          clear hb4 HB29 HF27 HF28
          have hk33 : w.heap.size < w4.heap.size := lt_of_block HF30.out
          have hk34 : w1.heap.size < w4.heap.size := lt_of_block HF31.out
          have HF35 := Lib.hid (blk_alloc HF30.out (.cells #[.int .i64 k, .int .i64 n, .string t] 24 (0, 0)))
          have HF36 := Lib.hid (blk_alloc HF31.out (.cells #[.int .i64 k, .int .i64 n, .string t] 24 (0, 0)))
          have HF37 := Lib.hid (blk_new w4 (.cells #[.int .i64 k, .int .i64 n, .string t] 24 (0, 0)))
          have HB38 := Lib.hid (HB32.out.alloc HB32.out.size (.cells #[.int .i64 k, .int .i64 n, .string t] 24 (0, 0)))
          clear HB32
          have hc39 : (w4.alloc (.cells #[.int .i64 k, .int .i64 n, .string t] 24 (0, 0))).cell? ⟨w.heap.size, 0, none⟩ = some (.int .i64 k) := by rw [cell_of_row _ _ _ _ _ _ HF35.out]; rfl
          have hc40 : w4.cell? ⟨w.heap.size, 0, none⟩ = some (.int .i64 k) := by rw [cell_of_row _ _ _ _ _ _ HF30.out]; rfl
          have hc41 : (w4.alloc (.cells #[.int .i64 k, .int .i64 n, .string t] 24 (0, 0))).cell? ⟨w.heap.size, 1, none⟩ = some (.int .i64 n) := by rw [cell_of_row _ _ _ _ _ _ HF35.out]; rfl
          have hc42 : w4.cell? ⟨w.heap.size, 1, none⟩ = some (.int .i64 n) := by rw [cell_of_row _ _ _ _ _ _ HF30.out]; rfl
          have hc43 : (w4.alloc (.cells #[.int .i64 k, .int .i64 n, .string t] 24 (0, 0))).cell? ⟨w.heap.size, 2, none⟩ = some (.string t) := by rw [cell_of_row _ _ _ _ _ _ HF35.out]; rfl
          have hc44 : w4.cell? ⟨w.heap.size, 2, none⟩ = some (.string t) := by rw [cell_of_row _ _ _ _ _ _ HF30.out]; rfl
          have hl45 : w.heap.size < w4.heap.size := lt_of_block HF30.out
          have hl46 : ¬ w.heap.size = w4.heap.size := by omega
          go_wp2_with fail
          refine (HSH.out (w4.alloc (.cells #[.int .i64 k, .int .i64 n, .string t] 24 (0, 0))) (HT.out.1.later HB38.out)).mono ?_
          rintro e w5 ⟨rfl, hb5⟩
          clear hc39 hc40 hc41 hc42 hc43 hc44 hl45 hl46
          have HF47 := Lib.hid (blk_below HF35.out hb5)
          have HF48 := Lib.hid (blk_below HF36.out hb5)
          have HF49 := Lib.hid (blk_below HF37.out hb5)
          have HB50 := Lib.hid (HB38.out.trans (hb5.mono HB38.out.size))
          clear hb5 HB38 HF35 HF30 HF36 HF31 HF37
          go_wp2_with fail
          refine (HPA.out w5 (HT.out.later HB50.out)).mono ?_
          rintro e w6 ⟨rfl, hb6⟩
          have HF51 := Lib.hid (blk_below HF47.out hb6)
          have HF52 := Lib.hid (blk_below HF48.out hb6)
          have HF53 := Lib.hid (blk_below HF49.out hb6)
          have HB54 := Lib.hid (HB50.out.trans (hb6.mono HB50.out.size))
          clear hb6 HB50 HF47 HF48 HF49
          have hk55 : w.heap.size < w6.heap.size := lt_of_block HF51.out
          have hk56 : w1.heap.size < w6.heap.size := lt_of_block HF52.out
          have hk57 : w4.heap.size < w6.heap.size := lt_of_block HF53.out
          have HF58 := Lib.hid (blk_alloc HF51.out (.cells #[.int .i64 k, .int .i64 n, .string t] 24 (0, 0)))
          have HF59 := Lib.hid (blk_alloc HF52.out (.cells #[.int .i64 k, .int .i64 n, .string t] 24 (0, 0)))
          have HF60 := Lib.hid (blk_alloc HF53.out (.cells #[.int .i64 k, .int .i64 n, .string t] 24 (0, 0)))
          have HF61 := Lib.hid (blk_new w6 (.cells #[.int .i64 k, .int .i64 n, .string t] 24 (0, 0)))
          have HB62 := Lib.hid (HB54.out.alloc HB54.out.size (.cells #[.int .i64 k, .int .i64 n, .string t] 24 (0, 0)))
          clear HB54
          have hc63 : (w6.alloc (.cells #[.int .i64 k, .int .i64 n, .string t] 24 (0, 0))).cell? ⟨w.heap.size, 0, none⟩ = some (.int .i64 k) := by rw [cell_of_row _ _ _ _ _ _ HF58.out]; rfl
          have hc64 : w6.cell? ⟨w.heap.size, 0, none⟩ = some (.int .i64 k) := by rw [cell_of_row _ _ _ _ _ _ HF51.out]; rfl
          have hc65 : (w6.alloc (.cells #[.int .i64 k, .int .i64 n, .string t] 24 (0, 0))).cell? ⟨w.heap.size, 1, none⟩ = some (.int .i64 n) := by rw [cell_of_row _ _ _ _ _ _ HF58.out]; rfl
          have hc66 : w6.cell? ⟨w.heap.size, 1, none⟩ = some (.int .i64 n) := by rw [cell_of_row _ _ _ _ _ _ HF51.out]; rfl
          have hc67 : (w6.alloc (.cells #[.int .i64 k, .int .i64 n, .string t] 24 (0, 0))).cell? ⟨w.heap.size, 2, none⟩ = some (.string t) := by rw [cell_of_row _ _ _ _ _ _ HF58.out]; rfl
          have hc68 : w6.cell? ⟨w.heap.size, 2, none⟩ = some (.string t) := by rw [cell_of_row _ _ _ _ _ _ HF51.out]; rfl
          have hl69 : w.heap.size < w6.heap.size := lt_of_block HF51.out
          have hl70 : ¬ w.heap.size = w6.heap.size := by omega
          have hc71 : (w6.alloc (.cells #[.int .i64 k, .int .i64 n, .string t] 24 (0, 0))).cell? ⟨w4.heap.size, 0, none⟩ = some (.int .i64 k) := by rw [cell_of_row _ _ _ _ _ _ HF60.out]; rfl
          have hc72 : w6.cell? ⟨w4.heap.size, 0, none⟩ = some (.int .i64 k) := by rw [cell_of_row _ _ _ _ _ _ HF53.out]; rfl
          have hc73 : (w6.alloc (.cells #[.int .i64 k, .int .i64 n, .string t] 24 (0, 0))).cell? ⟨w4.heap.size, 1, none⟩ = some (.int .i64 n) := by rw [cell_of_row _ _ _ _ _ _ HF60.out]; rfl
          have hc74 : w6.cell? ⟨w4.heap.size, 1, none⟩ = some (.int .i64 n) := by rw [cell_of_row _ _ _ _ _ _ HF53.out]; rfl
          have hc75 : (w6.alloc (.cells #[.int .i64 k, .int .i64 n, .string t] 24 (0, 0))).cell? ⟨w4.heap.size, 2, none⟩ = some (.string t) := by rw [cell_of_row _ _ _ _ _ _ HF60.out]; rfl
          have hc76 : w6.cell? ⟨w4.heap.size, 2, none⟩ = some (.string t) := by rw [cell_of_row _ _ _ _ _ _ HF53.out]; rfl
          have hl77 : w4.heap.size < w6.heap.size := lt_of_block HF53.out
          have hl78 : ¬ w4.heap.size = w6.heap.size := by omega
          have hc79 : (w6.alloc (.cells #[.int .i64 k, .int .i64 n, .string t] 24 (0, 0))).cell? ⟨w6.heap.size, 0, none⟩ = some (.int .i64 k) := by rw [cell_of_row _ _ _ _ _ _ HF61.out]; rfl
          have hc80 : (w6.alloc (.cells #[.int .i64 k, .int .i64 n, .string t] 24 (0, 0))).cell? ⟨w6.heap.size, 1, none⟩ = some (.int .i64 n) := by rw [cell_of_row _ _ _ _ _ _ HF61.out]; rfl
          have hc81 : (w6.alloc (.cells #[.int .i64 k, .int .i64 n, .string t] 24 (0, 0))).cell? ⟨w6.heap.size, 2, none⟩ = some (.string t) := by rw [cell_of_row _ _ _ _ _ _ HF61.out]; rfl
          go_wp2_with fail
          refine (awake06 (w6.alloc (.cells #[.int .i64 k, .int .i64 n, .string t] 24 (0, 0)))).mono ?_
          rintro e w7 ⟨rfl, hb7⟩
          clear hc63 hc64 hc65 hc66 hc67 hc68 hl69 hl70 hc71 hc72 hc73 hc74 hc75 hc76 hl77 hl78 hc79 hc80 hc81
          have HF82 := Lib.hid (blk_below HF58.out hb7)
          have HF83 := Lib.hid (blk_below HF59.out hb7)
          have HF84 := Lib.hid (blk_below HF60.out hb7)
          have HF85 := Lib.hid (blk_below HF61.out hb7)
          have HB86 := Lib.hid (HB62.out.trans (hb7.mono HB62.out.size))
          clear hb7 HB62 HF58 HF51 HF59 HF52 HF60 HF53 HF61
          go_wp2_with fail
          go_ret
          exact ⟨rfl, HB86.out⟩
        | false =>
          have hn1 : (f == 0) = false := by rw [beq_eq_false_iff_ne]; exact hz
          have hn2 : (f != 0) = true := by rw [bne, hn1]; rfl
          clear hof hz
          rw [errV_no hv] at HCK
          clear hv h1 h2 hr
          have HB1 := Lib.hid (Below.refl w.heap.size w)
          go_enter Tryd.func4, Tryd.ntmps4
          have HF2 := Lib.hid (blk_new w (.cells #[.int .i64 k, .int .i64 n, .string t] 24 (0, 0)))
          have HB3 := Lib.hid (HB1.out.alloc HB1.out.size (.cells #[.int .i64 k, .int .i64 n, .string t] 24 (0, 0)))
          clear HB1
          have hc4 : (w.alloc (.cells #[.int .i64 k, .int .i64 n, .string t] 24 (0, 0))).cell? ⟨w.heap.size, 0, none⟩ = some (.int .i64 k) := by rw [cell_of_row _ _ _ _ _ _ HF2.out]; rfl
          have hc5 : (w.alloc (.cells #[.int .i64 k, .int .i64 n, .string t] 24 (0, 0))).cell? ⟨w.heap.size, 1, none⟩ = some (.int .i64 n) := by rw [cell_of_row _ _ _ _ _ _ HF2.out]; rfl
          have hc6 : (w.alloc (.cells #[.int .i64 k, .int .i64 n, .string t] 24 (0, 0))).cell? ⟨w.heap.size, 2, none⟩ = some (.string t) := by rw [cell_of_row _ _ _ _ _ _ HF2.out]; rfl
          go_wp2_with fail
          refine (HTK.out (w.alloc (.cells #[.int .i64 k, .int .i64 n, .string t] 24 (0, 0)))).mono ?_
          rintro e w1 ⟨rfl, hb1⟩
          clear hc4 hc5 hc6
          have HF7 := Lib.hid (blk_below HF2.out hb1)
          have HB8 := Lib.hid (HB3.out.trans (hb1.mono HB3.out.size))
          clear hb1 HB3 HF2
          have hk9 : w.heap.size < w1.heap.size := lt_of_block HF7.out
          have HF10 := Lib.hid (blk_alloc HF7.out (.cells #[.int .i64 k2, .int .i64 n2, .string t2] 24 (0, 0)))
          have HF11 := Lib.hid (blk_new w1 (.cells #[.int .i64 k2, .int .i64 n2, .string t2] 24 (0, 0)))
          have HB12 := Lib.hid (HB8.out.alloc HB8.out.size (.cells #[.int .i64 k2, .int .i64 n2, .string t2] 24 (0, 0)))
          clear HB8
          have hc13 : (w1.alloc (.cells #[.int .i64 k2, .int .i64 n2, .string t2] 24 (0, 0))).cell? ⟨w.heap.size, 0, none⟩ = some (.int .i64 k) := by rw [cell_of_row _ _ _ _ _ _ HF10.out]; rfl
          have hc14 : w1.cell? ⟨w.heap.size, 0, none⟩ = some (.int .i64 k) := by rw [cell_of_row _ _ _ _ _ _ HF7.out]; rfl
          have hc15 : (w1.alloc (.cells #[.int .i64 k2, .int .i64 n2, .string t2] 24 (0, 0))).cell? ⟨w.heap.size, 1, none⟩ = some (.int .i64 n) := by rw [cell_of_row _ _ _ _ _ _ HF10.out]; rfl
          have hc16 : w1.cell? ⟨w.heap.size, 1, none⟩ = some (.int .i64 n) := by rw [cell_of_row _ _ _ _ _ _ HF7.out]; rfl
          have hc17 : (w1.alloc (.cells #[.int .i64 k2, .int .i64 n2, .string t2] 24 (0, 0))).cell? ⟨w.heap.size, 2, none⟩ = some (.string t) := by rw [cell_of_row _ _ _ _ _ _ HF10.out]; rfl
          have hc18 : w1.cell? ⟨w.heap.size, 2, none⟩ = some (.string t) := by rw [cell_of_row _ _ _ _ _ _ HF7.out]; rfl
          have hl19 : w.heap.size < w1.heap.size := lt_of_block HF7.out
          have hl20 : ¬ w.heap.size = w1.heap.size := by omega
          go_wp2_with fail
          refine (HCK.out (w1.alloc (.cells #[.int .i64 k2, .int .i64 n2, .string t2] 24 (0, 0)))).mono ?_
          rintro e w2 ⟨rfl, hb2⟩
          clear hc13 hc14 hc15 hc16 hc17 hc18 hl19 hl20
          have HF21 := Lib.hid (blk_below HF10.out hb2)
          have HF22 := Lib.hid (blk_below HF11.out hb2)
          have HB23 := Lib.hid (HB12.out.trans (hb2.mono HB12.out.size))
          clear hb2 HB12 HF10 HF7 HF11
          have hc24 : w2.cell? ⟨w.heap.size, 0, none⟩ = some (.int .i64 k) := by rw [cell_of_row _ _ _ _ _ _ HF21.out]; rfl
          have hc25 : w2.cell? ⟨w.heap.size, 1, none⟩ = some (.int .i64 n) := by rw [cell_of_row _ _ _ _ _ _ HF21.out]; rfl
          have hc26 : w2.cell? ⟨w.heap.size, 2, none⟩ = some (.string t) := by rw [cell_of_row _ _ _ _ _ _ HF21.out]; rfl
          go_wp2_with fail
          refine (awake06 w2).mono ?_
          rintro e w3 ⟨rfl, hb3⟩
          clear hc24 hc25 hc26
          have HF27 := Lib.hid (blk_below HF21.out hb3)
          have HF28 := Lib.hid (blk_below HF22.out hb3)
          have HB29 := Lib.hid (HB23.out.trans (hb3.mono HB23.out.size))
          clear hb3 HB23 HF21 HF22
          go_wp2_with fail
          go_ret
          exact ⟨rfl, HB29.out⟩
    · have hd2 : decide ((1000 : Int) < (S.size : Int)) = true := decide_eq_true (by omega)
      clear h1 h2 hr
      have HB1 := Lib.hid (Below.refl w.heap.size w)
      go_enter Tryd.func4, Tryd.ntmps4
      have HF2 := Lib.hid (blk_new w (.cells #[.int .i64 k, .int .i64 n, .string t] 24 (0, 0)))
      have HB3 := Lib.hid (HB1.out.alloc HB1.out.size (.cells #[.int .i64 k, .int .i64 n, .string t] 24 (0, 0)))
      clear HB1
      have hc4 : (w.alloc (.cells #[.int .i64 k, .int .i64 n, .string t] 24 (0, 0))).cell? ⟨w.heap.size, 0, none⟩ = some (.int .i64 k) := by rw [cell_of_row _ _ _ _ _ _ HF2.out]; rfl
      have hc5 : (w.alloc (.cells #[.int .i64 k, .int .i64 n, .string t] 24 (0, 0))).cell? ⟨w.heap.size, 1, none⟩ = some (.int .i64 n) := by rw [cell_of_row _ _ _ _ _ _ HF2.out]; rfl
      have hc6 : (w.alloc (.cells #[.int .i64 k, .int .i64 n, .string t] 24 (0, 0))).cell? ⟨w.heap.size, 2, none⟩ = some (.string t) := by rw [cell_of_row _ _ _ _ _ _ HF2.out]; rfl
      go_wp2_with fail
      refine (awake06 (w.alloc (.cells #[.int .i64 k, .int .i64 n, .string t] 24 (0, 0)))).mono ?_
      rintro e w1 ⟨rfl, hb1⟩
      clear hc4 hc5 hc6
      have HF7 := Lib.hid (blk_below HF2.out hb1)
      have HB8 := Lib.hid (HB3.out.trans (hb1.mono HB3.out.size))
      clear hb1 HB3 HF2
      go_wp2_with fail
      go_ret
      exact ⟨rfl, HB8.out⟩
  · have hd : decide ((1000 : Int) < (t.size : Int)) = true := decide_eq_true (by omega)
    clear h1 hr
    have HB1 := Lib.hid (Below.refl w.heap.size w)
    go_enter Tryd.func4, Tryd.ntmps4
    have HF2 := Lib.hid (blk_new w (.cells #[.int .i64 k, .int .i64 n, .string t] 24 (0, 0)))
    have HB3 := Lib.hid (HB1.out.alloc HB1.out.size (.cells #[.int .i64 k, .int .i64 n, .string t] 24 (0, 0)))
    clear HB1
    have hc4 : (w.alloc (.cells #[.int .i64 k, .int .i64 n, .string t] 24 (0, 0))).cell? ⟨w.heap.size, 0, none⟩ = some (.int .i64 k) := by rw [cell_of_row _ _ _ _ _ _ HF2.out]; rfl
    have hc5 : (w.alloc (.cells #[.int .i64 k, .int .i64 n, .string t] 24 (0, 0))).cell? ⟨w.heap.size, 1, none⟩ = some (.int .i64 n) := by rw [cell_of_row _ _ _ _ _ _ HF2.out]; rfl
    have hc6 : (w.alloc (.cells #[.int .i64 k, .int .i64 n, .string t] 24 (0, 0))).cell? ⟨w.heap.size, 2, none⟩ = some (.string t) := by rw [cell_of_row _ _ _ _ _ _ HF2.out]; rfl
    go_wp2_with fail
    refine (awake06 (w.alloc (.cells #[.int .i64 k, .int .i64 n, .string t] 24 (0, 0)))).mono ?_
    rintro e w1 ⟨rfl, hb1⟩
    clear hc4 hc5 hc6
    have HF7 := Lib.hid (blk_below HF2.out hb1)
    have HB8 := Lib.hid (HB3.out.trans (hb1.mono HB3.out.size))
    clear hb1 HB3 HF2
    go_wp2_with fail
    go_ret
    exact ⟨rfl, HB8.out⟩
end Go.Proofs.YtpiafgdbjpfcaaaDoor.LValueBack
