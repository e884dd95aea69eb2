/- The walk of EntryTakes over this translation. Condition: the table of crc. -/
import Derived.Test.YtpiafgdbjpfcaaaDoorRows
import Derived.Test.YtpiafgdbjpfcaaaDoorEw
import Derived.Deep.DeepCutAuto
namespace Go.Proofs.YtpiafgdbjpfcaaaDoor.LEntryTakes
open Go.RowKit Vi Cm

set_option maxHeartbeats 8000000 in
set_option maxRecDepth 100000 in
theorem walk (S : ByteArray) (ep sq : Int) (w : World) (hT : Tab w) :
    Calls Tryd.prog 6 #[.string S, .int .i64 ep, .int .i64 sq] w fun e w' => e = .returned (.bool true) ∧ Below w.heap.size w w' := by
  have HT := Lib.hid hT
  clear hT
  by_cases h1 : S.size ≤ 1000
  · have hd : decide ((1000 : Int) < (S.size : Int)) = false := decide_eq_false (by omega)
    by_cases hr : IsRec S
    · obtain ⟨a, b, k, x, o, n, t, u, h, rfl⟩ := hr
      have HTK := Lib.hid (fun (W : World) (g : Tab W) => etake_yes a b k x o n t u W g h)
      have HRT := Lib.hid (fun (W : World) => ertake_yes a b k x o n t u W h)
      unfold recV at HTK HRT
      by_cases hm : a = ep ∧ b = sq
      · obtain ⟨rfl, rfl⟩ := hm
        have HIS := Lib.hid (fun (W : World) (g : Tab W) => eis_hit a b k x o n t u W g h)
        unfold recV at HIS
        generalize recS a b k x o n t u = S at *
        clear h1 h
        have HB1 := Lib.hid (Below.refl w.heap.size w)
        go_enter Tryd.func6, Tryd.ntmps6
        go_wp2_with fail
        refine (HTK.out w (HT.out.later HB1.out)).mono ?_
        rintro e w1 ⟨rfl, hb1⟩
        have HB2 := Lib.hid (HB1.out.trans (hb1.mono HB1.out.size))
        clear hb1 HB1 
        have HF3 := Lib.hid (blk_new w1 (.cells #[.int .i64 a, .int .i64 b, .int .i64 k, .string x, .string o, .string n, .int .i64 t, .int .i64 u] 37 (0, 0)))
        have HB4 := Lib.hid (HB2.out.alloc HB2.out.size (.cells #[.int .i64 a, .int .i64 b, .int .i64 k, .string x, .string o, .string n, .int .i64 t, .int .i64 u] 37 (0, 0)))
        clear HB2
        go_wp2_with fail
        refine (HRT.out (w1.alloc (.cells #[.int .i64 a, .int .i64 b, .int .i64 k, .string x, .string o, .string n, .int .i64 t, .int .i64 u] 37 (0, 0)))).mono ?_
        rintro e w2 ⟨rfl, hb2⟩
        have HF5 := Lib.hid (blk_below HF3.out hb2)
        have HB6 := Lib.hid (HB4.out.trans (hb2.mono HB4.out.size))
        clear hb2 HB4 HF3
        have hk7 : w1.heap.size < w2.heap.size := lt_of_block HF5.out
        have HF8 := Lib.hid (blk_alloc HF5.out (.cells #[.int .i64 a, .int .i64 b, .int .i64 k, .string x, .string o, .string n, .int .i64 t, .int .i64 u] 37 (0, 0)))
        have HF9 := Lib.hid (blk_new w2 (.cells #[.int .i64 a, .int .i64 b, .int .i64 k, .string x, .string o, .string n, .int .i64 t, .int .i64 u] 37 (0, 0)))
        have HB10 := Lib.hid (HB6.out.alloc HB6.out.size (.cells #[.int .i64 a, .int .i64 b, .int .i64 k, .string x, .string o, .string n, .int .i64 t, .int .i64 u] 37 (0, 0)))
        clear HB6
        go_wp2_with fail
        refine (HIS.out (w2.alloc (.cells #[.int .i64 a, .int .i64 b, .int .i64 k, .string x, .string o, .string n, .int .i64 t, .int .i64 u] 37 (0, 0))) (HT.out.later HB10.out)).mono ?_
        rintro e w3 ⟨rfl, hb3⟩
        have HF11 := Lib.hid (blk_below HF8.out hb3)
        have HF12 := Lib.hid (blk_below HF9.out hb3)
        have HB13 := Lib.hid (HB10.out.trans (hb3.mono HB10.out.size))
        clear hb3 HB10 HF8 HF5 HF9
        have hk14 : w1.heap.size < w3.heap.size := lt_of_block HF11.out
        have hk15 : w2.heap.size < w3.heap.size := lt_of_block HF12.out
        have HF16 := Lib.hid (blk_alloc HF11.out (.cells #[.int .i64 a, .int .i64 b, .int .i64 k, .string x, .string o, .string n, .int .i64 t, .int .i64 u] 37 (0, 0)))
        have HF17 := Lib.hid (blk_alloc HF12.out (.cells #[.int .i64 a, .int .i64 b, .int .i64 k, .string x, .string o, .string n, .int .i64 t, .int .i64 u] 37 (0, 0)))
        have HF18 := Lib.hid (blk_new w3 (.cells #[.int .i64 a, .int .i64 b, .int .i64 k, .string x, .string o, .string n, .int .i64 t, .int .i64 u] 37 (0, 0)))
        have HB19 := Lib.hid (HB13.out.alloc HB13.out.size (.cells #[.int .i64 a, .int .i64 b, .int .i64 k, .string x, .string o, .string n, .int .i64 t, .int .i64 u] 37 (0, 0)))
        clear HB13
        have hc20 : (w3.alloc (.cells #[.int .i64 a, .int .i64 b, .int .i64 k, .string x, .string o, .string n, .int .i64 t, .int .i64 u] 37 (0, 0))).cell? ⟨w1.heap.size, 0, none⟩ = some (.int .i64 a) := by rw [cell_of_row _ _ _ _ _ _ HF16.out]; rfl
        have hc21 : w3.cell? ⟨w1.heap.size, 0, none⟩ = some (.int .i64 a) := by rw [cell_of_row _ _ _ _ _ _ HF11.out]; rfl
        have hc22 : (w3.alloc (.cells #[.int .i64 a, .int .i64 b, .int .i64 k, .string x, .string o, .string n, .int .i64 t, .int .i64 u] 37 (0, 0))).cell? ⟨w1.heap.size, 1, none⟩ = some (.int .i64 b) := by rw [cell_of_row _ _ _ _ _ _ HF16.out]; rfl
        have hc23 : w3.cell? ⟨w1.heap.size, 1, none⟩ = some (.int .i64 b) := by rw [cell_of_row _ _ _ _ _ _ HF11.out]; rfl
        have hc24 : (w3.alloc (.cells #[.int .i64 a, .int .i64 b, .int .i64 k, .string x, .string o, .string n, .int .i64 t, .int .i64 u] 37 (0, 0))).cell? ⟨w1.heap.size, 2, none⟩ = some (.int .i64 k) := by rw [cell_of_row _ _ _ _ _ _ HF16.out]; rfl
        have hc25 : w3.cell? ⟨w1.heap.size, 2, none⟩ = some (.int .i64 k) := by rw [cell_of_row _ _ _ _ _ _ HF11.out]; rfl
        have hc26 : (w3.alloc (.cells #[.int .i64 a, .int .i64 b, .int .i64 k, .string x, .string o, .string n, .int .i64 t, .int .i64 u] 37 (0, 0))).cell? ⟨w1.heap.size, 3, none⟩ = some (.string x) := by rw [cell_of_row _ _ _ _ _ _ HF16.out]; rfl
        have hc27 : w3.cell? ⟨w1.heap.size, 3, none⟩ = some (.string x) := by rw [cell_of_row _ _ _ _ _ _ HF11.out]; rfl
        have hc28 : (w3.alloc (.cells #[.int .i64 a, .int .i64 b, .int .i64 k, .string x, .string o, .string n, .int .i64 t, .int .i64 u] 37 (0, 0))).cell? ⟨w1.heap.size, 4, none⟩ = some (.string o) := by rw [cell_of_row _ _ _ _ _ _ HF16.out]; rfl
        have hc29 : w3.cell? ⟨w1.heap.size, 4, none⟩ = some (.string o) := by rw [cell_of_row _ _ _ _ _ _ HF11.out]; rfl
        have hc30 : (w3.alloc (.cells #[.int .i64 a, .int .i64 b, .int .i64 k, .string x, .string o, .string n, .int .i64 t, .int .i64 u] 37 (0, 0))).cell? ⟨w1.heap.size, 5, none⟩ = some (.string n) := by rw [cell_of_row _ _ _ _ _ _ HF16.out]; rfl
        have hc31 : w3.cell? ⟨w1.heap.size, 5, none⟩ = some (.string n) := by rw [cell_of_row _ _ _ _ _ _ HF11.out]; rfl
        have hc32 : (w3.alloc (.cells #[.int .i64 a, .int .i64 b, .int .i64 k, .string x, .string o, .string n, .int .i64 t, .int .i64 u] 37 (0, 0))).cell? ⟨w1.heap.size, 6, none⟩ = some (.int .i64 t) := by rw [cell_of_row _ _ _ _ _ _ HF16.out]; rfl
        have hc33 : w3.cell? ⟨w1.heap.size, 6, none⟩ = some (.int .i64 t) := by rw [cell_of_row _ _ _ _ _ _ HF11.out]; rfl
        have hc34 : (w3.alloc (.cells #[.int .i64 a, .int .i64 b, .int .i64 k, .string x, .string o, .string n, .int .i64 t, .int .i64 u] 37 (0, 0))).cell? ⟨w1.heap.size, 7, none⟩ = some (.int .i64 u) := by rw [cell_of_row _ _ _ _ _ _ HF16.out]; rfl
        have hc35 : w3.cell? ⟨w1.heap.size, 7, none⟩ = some (.int .i64 u) := by rw [cell_of_row _ _ _ _ _ _ HF11.out]; rfl
        have hl36 : w1.heap.size < w3.heap.size := lt_of_block HF11.out
        have hl37 : ¬ w1.heap.size = w3.heap.size := by omega
        have hc38 : (w3.alloc (.cells #[.int .i64 a, .int .i64 b, .int .i64 k, .string x, .string o, .string n, .int .i64 t, .int .i64 u] 37 (0, 0))).cell? ⟨w2.heap.size, 0, none⟩ = some (.int .i64 a) := by rw [cell_of_row _ _ _ _ _ _ HF17.out]; rfl
        have hc39 : w3.cell? ⟨w2.heap.size, 0, none⟩ = some (.int .i64 a) := by rw [cell_of_row _ _ _ _ _ _ HF12.out]; rfl
        have hc40 : (w3.alloc (.cells #[.int .i64 a, .int .i64 b, .int .i64 k, .string x, .string o, .string n, .int .i64 t, .int .i64 u] 37 (0, 0))).cell? ⟨w2.heap.size, 1, none⟩ = some (.int .i64 b) := by rw [cell_of_row _ _ _ _ _ _ HF17.out]; rfl
        have hc41 : w3.cell? ⟨w2.heap.size, 1, none⟩ = some (.int .i64 b) := by rw [cell_of_row _ _ _ _ _ _ HF12.out]; rfl
        have hc42 : (w3.alloc (.cells #[.int .i64 a, .int .i64 b, .int .i64 k, .string x, .string o, .string n, .int .i64 t, .int .i64 u] 37 (0, 0))).cell? ⟨w2.heap.size, 2, none⟩ = some (.int .i64 k) := by rw [cell_of_row _ _ _ _ _ _ HF17.out]; rfl
        have hc43 : w3.cell? ⟨w2.heap.size, 2, none⟩ = some (.int .i64 k) := by rw [cell_of_row _ _ _ _ _ _ HF12.out]; rfl
        have hc44 : (w3.alloc (.cells #[.int .i64 a, .int .i64 b, .int .i64 k, .string x, .string o, .string n, .int .i64 t, .int .i64 u] 37 (0, 0))).cell? ⟨w2.heap.size, 3, none⟩ = some (.string x) := by rw [cell_of_row _ _ _ _ _ _ HF17.out]; rfl
        have hc45 : w3.cell? ⟨w2.heap.size, 3, none⟩ = some (.string x) := by rw [cell_of_row _ _ _ _ _ _ HF12.out]; rfl
        have hc46 : (w3.alloc (.cells #[.int .i64 a, .int .i64 b, .int .i64 k, .string x, .string o, .string n, .int .i64 t, .int .i64 u] 37 (0, 0))).cell? ⟨w2.heap.size, 4, none⟩ = some (.string o) := by rw [cell_of_row _ _ _ _ _ _ HF17.out]; rfl
        have hc47 : w3.cell? ⟨w2.heap.size, 4, none⟩ = some (.string o) := by rw [cell_of_row _ _ _ _ _ _ HF12.out]; rfl
        have hc48 : (w3.alloc (.cells #[.int .i64 a, .int .i64 b, .int .i64 k, .string x, .string o, .string n, .int .i64 t, .int .i64 u] 37 (0, 0))).cell? ⟨w2.heap.size, 5, none⟩ = some (.string n) := by rw [cell_of_row _ _ _ _ _ _ HF17.out]; rfl
        have hc49 : w3.cell? ⟨w2.heap.size, 5, none⟩ = some (.string n) := by rw [cell_of_row _ _ _ _ _ _ HF12.out]; rfl
        have hc50 : (w3.alloc (.cells #[.int .i64 a, .int .i64 b, .int .i64 k, .string x, .string o, .string n, .int .i64 t, .int .i64 u] 37 (0, 0))).cell? ⟨w2.heap.size, 6, none⟩ = some (.int .i64 t) := by rw [cell_of_row _ _ _ _ _ _ HF17.out]; rfl
        have hc51 : w3.cell? ⟨w2.heap.size, 6, none⟩ = some (.int .i64 t) := by rw [cell_of_row _ _ _ _ _ _ HF12.out]; rfl
        have hc52 : (w3.alloc (.cells #[.int .i64 a, .int .i64 b, .int .i64 k, .string x, .string o, .string n, .int .i64 t, .int .i64 u] 37 (0, 0))).cell? ⟨w2.heap.size, 7, none⟩ = some (.int .i64 u) := by rw [cell_of_row _ _ _ _ _ _ HF17.out]; rfl
        have hc53 : w3.cell? ⟨w2.heap.size, 7, none⟩ = some (.int .i64 u) := by rw [cell_of_row _ _ _ _ _ _ HF12.out]; rfl
        have hl54 : w2.heap.size < w3.heap.size := lt_of_block HF12.out
        have hl55 : ¬ w2.heap.size = w3.heap.size := by omega
        have hc56 : (w3.alloc (.cells #[.int .i64 a, .int .i64 b, .int .i64 k, .string x, .string o, .string n, .int .i64 t, .int .i64 u] 37 (0, 0))).cell? ⟨w3.heap.size, 0, none⟩ = some (.int .i64 a) := by rw [cell_of_row _ _ _ _ _ _ HF18.out]; rfl
        have hc57 : (w3.alloc (.cells #[.int .i64 a, .int .i64 b, .int .i64 k, .string x, .string o, .string n, .int .i64 t, .int .i64 u] 37 (0, 0))).cell? ⟨w3.heap.size, 1, none⟩ = some (.int .i64 b) := by rw [cell_of_row _ _ _ _ _ _ HF18.out]; rfl
        have hc58 : (w3.alloc (.cells #[.int .i64 a, .int .i64 b, .int .i64 k, .string x, .string o, .string n, .int .i64 t, .int .i64 u] 37 (0, 0))).cell? ⟨w3.heap.size, 2, none⟩ = some (.int .i64 k) := by rw [cell_of_row _ _ _ _ _ _ HF18.out]; rfl
        have hc59 : (w3.alloc (.cells #[.int .i64 a, .int .i64 b, .int .i64 k, .string x, .string o, .string n, .int .i64 t, .int .i64 u] 37 (0, 0))).cell? ⟨w3.heap.size, 3, none⟩ = some (.string x) := by rw [cell_of_row _ _ _ _ _ _ HF18.out]; rfl
        have hc60 : (w3.alloc (.cells #[.int .i64 a, .int .i64 b, .int .i64 k, .string x, .string o, .string n, .int .i64 t, .int .i64 u] 37 (0, 0))).cell? ⟨w3.heap.size, 4, none⟩ = some (.string o) := by rw [cell_of_row _ _ _ _ _ _ HF18.out]; rfl
        have hc61 : (w3.alloc (.cells #[.int .i64 a, .int .i64 b, .int .i64 k, .string x, .string o, .string n, .int .i64 t, .int .i64 u] 37 (0, 0))).cell? ⟨w3.heap.size, 5, none⟩ = some (.string n) := by rw [cell_of_row _ _ _ _ _ _ HF18.out]; rfl
        have hc62 : (w3.alloc (.cells #[.int .i64 a, .int .i64 b, .int .i64 k, .string x, .string o, .string n, .int .i64 t, .int .i64 u] 37 (0, 0))).cell? ⟨w3.heap.size, 6, none⟩ = some (.int .i64 t) := by rw [cell_of_row _ _ _ _ _ _ HF18.out]; rfl
        have hc63 : (w3.alloc (.cells #[.int .i64 a, .int .i64 b, .int .i64 k, .string x, .string o, .string n, .int .i64 t, .int .i64 u] 37 (0, 0))).cell? ⟨w3.heap.size, 7, none⟩ = some (.int .i64 u) := by rw [cell_of_row _ _ _ _ _ _ HF18.out]; rfl
        go_wp2_with fail
        refine (awake10 (w3.alloc (.cells #[.int .i64 a, .int .i64 b, .int .i64 k, .string x, .string o, .string n, .int .i64 t, .int .i64 u] 37 (0, 0))) (HT.out.later HB19.out)).mono ?_
        rintro e w4 ⟨rfl, hb4⟩
        clear hc20 hc21 hc22 hc23 hc24 hc25 hc26 hc27 hc28 hc29 hc30 hc31 hc32 hc33 hc34 hc35 hl36 hl37 hc38 hc39 hc40 hc41 hc42 hc43 hc44 hc45 hc46 hc47 hc48 hc49 hc50 hc51 hc52 hc53 hl54 hl55 hc56 hc57 hc58 hc59 hc60 hc61 hc62 hc63
        have HF64 := Lib.hid (blk_below HF16.out hb4)
        have HF65 := Lib.hid (blk_below HF17.out hb4)
        have HF66 := Lib.hid (blk_below HF18.out hb4)
        have HB67 := Lib.hid (HB19.out.trans (hb4.mono HB19.out.size))
        clear hb4 HB19 HF16 HF11 HF17 HF12 HF18
        go_wp2_with fail
        go_ret
        exact ⟨rfl, HB67.out⟩
      · have HIS := Lib.hid (fun (W : World) (g : Tab W) => eis_miss a b k x o n t u ep sq W g h hm)
        unfold recZ at HIS
        have bd := rok_bd h
        have ha0 : ((0 : Int) == a) = false := by rw [beq_eq_false_iff_ne]; omega
        have ha1 : (a == (0 : Int)) = false := by rw [beq_eq_false_iff_ne]; omega
        generalize recS a b k x o n t u = S at *
        clear h1 h bd
        by_cases h1 : a = ep
        · have h2 : (b == sq) = false := by rw [beq_eq_false_iff_ne]; exact fun e => hm ⟨h1, e⟩
          subst h1
          clear hm
          have HB1 := Lib.hid (Below.refl w.heap.size w)
          go_enter Tryd.func6, Tryd.ntmps6
          go_wp2_with fail
          refine (HTK.out w (HT.out.later HB1.out)).mono ?_
          rintro e w1 ⟨rfl, hb1⟩
          have HB2 := Lib.hid (HB1.out.trans (hb1.mono HB1.out.size))
          clear hb1 HB1 
          have HF3 := Lib.hid (blk_new w1 (.cells #[.int .i64 a, .int .i64 b, .int .i64 k, .string x, .string o, .string n, .int .i64 t, .int .i64 u] 37 (0, 0)))
          have HB4 := Lib.hid (HB2.out.alloc HB2.out.size (.cells #[.int .i64 a, .int .i64 b, .int .i64 k, .string x, .string o, .string n, .int .i64 t, .int .i64 u] 37 (0, 0)))
          clear HB2
          go_wp2_with fail
          refine (HRT.out (w1.alloc (.cells #[.int .i64 a, .int .i64 b, .int .i64 k, .string x, .string o, .string n, .int .i64 t, .int .i64 u] 37 (0, 0)))).mono ?_
          rintro e w2 ⟨rfl, hb2⟩
          have HF5 := Lib.hid (blk_below HF3.out hb2)
          have HB6 := Lib.hid (HB4.out.trans (hb2.mono HB4.out.size))
          clear hb2 HB4 HF3
          have hk7 : w1.heap.size < w2.heap.size := lt_of_block HF5.out
          have HF8 := Lib.hid (blk_alloc HF5.out (.cells #[.int .i64 a, .int .i64 b, .int .i64 k, .string x, .string o, .string n, .int .i64 t, .int .i64 u] 37 (0, 0)))
          have HF9 := Lib.hid (blk_new w2 (.cells #[.int .i64 a, .int .i64 b, .int .i64 k, .string x, .string o, .string n, .int .i64 t, .int .i64 u] 37 (0, 0)))
          have HB10 := Lib.hid (HB6.out.alloc HB6.out.size (.cells #[.int .i64 a, .int .i64 b, .int .i64 k, .string x, .string o, .string n, .int .i64 t, .int .i64 u] 37 (0, 0)))
          clear HB6
          go_wp2_with fail
          refine (HIS.out (w2.alloc (.cells #[.int .i64 a, .int .i64 b, .int .i64 k, .string x, .string o, .string n, .int .i64 t, .int .i64 u] 37 (0, 0))) (HT.out.later HB10.out)).mono ?_
          rintro e w3 ⟨rfl, hb3⟩
          have HF11 := Lib.hid (blk_below HF8.out hb3)
          have HF12 := Lib.hid (blk_below HF9.out hb3)
          have HB13 := Lib.hid (HB10.out.trans (hb3.mono HB10.out.size))
          clear hb3 HB10 HF8 HF5 HF9
          have hk14 : w1.heap.size < w3.heap.size := lt_of_block HF11.out
          have hk15 : w2.heap.size < w3.heap.size := lt_of_block HF12.out
          have HF16 := Lib.hid (blk_alloc HF11.out (.cells #[.int .i64 0, .int .i64 0, .int .i64 0, .string ⟨#[]⟩, .string ⟨#[]⟩, .string ⟨#[]⟩, .int .i64 0, .int .i64 0] 37 (0, 0)))
          have HF17 := Lib.hid (blk_alloc HF12.out (.cells #[.int .i64 0, .int .i64 0, .int .i64 0, .string ⟨#[]⟩, .string ⟨#[]⟩, .string ⟨#[]⟩, .int .i64 0, .int .i64 0] 37 (0, 0)))
          have HF18 := Lib.hid (blk_new w3 (.cells #[.int .i64 0, .int .i64 0, .int .i64 0, .string ⟨#[]⟩, .string ⟨#[]⟩, .string ⟨#[]⟩, .int .i64 0, .int .i64 0] 37 (0, 0)))
          have HB19 := Lib.hid (HB13.out.alloc HB13.out.size (.cells #[.int .i64 0, .int .i64 0, .int .i64 0, .string ⟨#[]⟩, .string ⟨#[]⟩, .string ⟨#[]⟩, .int .i64 0, .int .i64 0] 37 (0, 0)))
          clear HB13
          have hc20 : (w3.alloc (.cells #[.int .i64 0, .int .i64 0, .int .i64 0, .string ⟨#[]⟩, .string ⟨#[]⟩, .string ⟨#[]⟩, .int .i64 0, .int .i64 0] 37 (0, 0))).cell? ⟨w1.heap.size, 0, none⟩ = some (.int .i64 a) := by rw [cell_of_row _ _ _ _ _ _ HF16.out]; rfl
          have hc21 : w3.cell? ⟨w1.heap.size, 0, none⟩ = some (.int .i64 a) := by rw [cell_of_row _ _ _ _ _ _ HF11.out]; rfl
          have hc22 : (w3.alloc (.cells #[.int .i64 0, .int .i64 0, .int .i64 0, .string ⟨#[]⟩, .string ⟨#[]⟩, .string ⟨#[]⟩, .int .i64 0, .int .i64 0] 37 (0, 0))).cell? ⟨w1.heap.size, 1, none⟩ = some (.int .i64 b) := by rw [cell_of_row _ _ _ _ _ _ HF16.out]; rfl
          have hc23 : w3.cell? ⟨w1.heap.size, 1, none⟩ = some (.int .i64 b) := by rw [cell_of_row _ _ _ _ _ _ HF11.out]; rfl
          have hc24 : (w3.alloc (.cells #[.int .i64 0, .int .i64 0, .int .i64 0, .string ⟨#[]⟩, .string ⟨#[]⟩, .string ⟨#[]⟩, .int .i64 0, .int .i64 0] 37 (0, 0))).cell? ⟨w1.heap.size, 2, none⟩ = some (.int .i64 k) := by rw [cell_of_row _ _ _ _ _ _ HF16.out]; rfl
          have hc25 : w3.cell? ⟨w1.heap.size, 2, none⟩ = some (.int .i64 k) := by rw [cell_of_row _ _ _ _ _ _ HF11.out]; rfl
          have hc26 : (w3.alloc (.cells #[.int .i64 0, .int .i64 0, .int .i64 0, .string ⟨#[]⟩, .string ⟨#[]⟩, .string ⟨#[]⟩, .int .i64 0, .int .i64 0] 37 (0, 0))).cell? ⟨w1.heap.size, 3, none⟩ = some (.string x) := by rw [cell_of_row _ _ _ _ _ _ HF16.out]; rfl
          have hc27 : w3.cell? ⟨w1.heap.size, 3, none⟩ = some (.string x) := by rw [cell_of_row _ _ _ _ _ _ HF11.out]; rfl
          have hc28 : (w3.alloc (.cells #[.int .i64 0, .int .i64 0, .int .i64 0, .string ⟨#[]⟩, .string ⟨#[]⟩, .string ⟨#[]⟩, .int .i64 0, .int .i64 0] 37 (0, 0))).cell? ⟨w1.heap.size, 4, none⟩ = some (.string o) := by rw [cell_of_row _ _ _ _ _ _ HF16.out]; rfl
          have hc29 : w3.cell? ⟨w1.heap.size, 4, none⟩ = some (.string o) := by rw [cell_of_row _ _ _ _ _ _ HF11.out]; rfl
          have hc30 : (w3.alloc (.cells #[.int .i64 0, .int .i64 0, .int .i64 0, .string ⟨#[]⟩, .string ⟨#[]⟩, .string ⟨#[]⟩, .int .i64 0, .int .i64 0] 37 (0, 0))).cell? ⟨w1.heap.size, 5, none⟩ = some (.string n) := by rw [cell_of_row _ _ _ _ _ _ HF16.out]; rfl
          have hc31 : w3.cell? ⟨w1.heap.size, 5, none⟩ = some (.string n) := by rw [cell_of_row _ _ _ _ _ _ HF11.out]; rfl
          have hc32 : (w3.alloc (.cells #[.int .i64 0, .int .i64 0, .int .i64 0, .string ⟨#[]⟩, .string ⟨#[]⟩, .string ⟨#[]⟩, .int .i64 0, .int .i64 0] 37 (0, 0))).cell? ⟨w1.heap.size, 6, none⟩ = some (.int .i64 t) := by rw [cell_of_row _ _ _ _ _ _ HF16.out]; rfl
          have hc33 : w3.cell? ⟨w1.heap.size, 6, none⟩ = some (.int .i64 t) := by rw [cell_of_row _ _ _ _ _ _ HF11.out]; rfl
          have hc34 : (w3.alloc (.cells #[.int .i64 0, .int .i64 0, .int .i64 0, .string ⟨#[]⟩, .string ⟨#[]⟩, .string ⟨#[]⟩, .int .i64 0, .int .i64 0] 37 (0, 0))).cell? ⟨w1.heap.size, 7, none⟩ = some (.int .i64 u) := by rw [cell_of_row _ _ _ _ _ _ HF16.out]; rfl
          have hc35 : w3.cell? ⟨w1.heap.size, 7, none⟩ = some (.int .i64 u) := by rw [cell_of_row _ _ _ _ _ _ HF11.out]; rfl
          have hl36 : w1.heap.size < w3.heap.size := lt_of_block HF11.out
          have hl37 : ¬ w1.heap.size = w3.heap.size := by omega
          have hc38 : (w3.alloc (.cells #[.int .i64 0, .int .i64 0, .int .i64 0, .string ⟨#[]⟩, .string ⟨#[]⟩, .string ⟨#[]⟩, .int .i64 0, .int .i64 0] 37 (0, 0))).cell? ⟨w2.heap.size, 0, none⟩ = some (.int .i64 a) := by rw [cell_of_row _ _ _ _ _ _ HF17.out]; rfl
          have hc39 : w3.cell? ⟨w2.heap.size, 0, none⟩ = some (.int .i64 a) := by rw [cell_of_row _ _ _ _ _ _ HF12.out]; rfl
          have hc40 : (w3.alloc (.cells #[.int .i64 0, .int .i64 0, .int .i64 0, .string ⟨#[]⟩, .string ⟨#[]⟩, .string ⟨#[]⟩, .int .i64 0, .int .i64 0] 37 (0, 0))).cell? ⟨w2.heap.size, 1, none⟩ = some (.int .i64 b) := by rw [cell_of_row _ _ _ _ _ _ HF17.out]; rfl
          have hc41 : w3.cell? ⟨w2.heap.size, 1, none⟩ = some (.int .i64 b) := by rw [cell_of_row _ _ _ _ _ _ HF12.out]; rfl
          have hc42 : (w3.alloc (.cells #[.int .i64 0, .int .i64 0, .int .i64 0, .string ⟨#[]⟩, .string ⟨#[]⟩, .string ⟨#[]⟩, .int .i64 0, .int .i64 0] 37 (0, 0))).cell? ⟨w2.heap.size, 2, none⟩ = some (.int .i64 k) := by rw [cell_of_row _ _ _ _ _ _ HF17.out]; rfl
          have hc43 : w3.cell? ⟨w2.heap.size, 2, none⟩ = some (.int .i64 k) := by rw [cell_of_row _ _ _ _ _ _ HF12.out]; rfl
          have hc44 : (w3.alloc (.cells #[.int .i64 0, .int .i64 0, .int .i64 0, .string ⟨#[]⟩, .string ⟨#[]⟩, .string ⟨#[]⟩, .int .i64 0, .int .i64 0] 37 (0, 0))).cell? ⟨w2.heap.size, 3, none⟩ = some (.string x) := by rw [cell_of_row _ _ _ _ _ _ HF17.out]; rfl
          have hc45 : w3.cell? ⟨w2.heap.size, 3, none⟩ = some (.string x) := by rw [cell_of_row _ _ _ _ _ _ HF12.out]; rfl
          have hc46 : (w3.alloc (.cells #[.int .i64 0, .int .i64 0, .int .i64 0, .string ⟨#[]⟩, .string ⟨#[]⟩, .string ⟨#[]⟩, .int .i64 0, .int .i64 0] 37 (0, 0))).cell? ⟨w2.heap.size, 4, none⟩ = some (.string o) := by rw [cell_of_row _ _ _ _ _ _ HF17.out]; rfl
          have hc47 : w3.cell? ⟨w2.heap.size, 4, none⟩ = some (.string o) := by rw [cell_of_row _ _ _ _ _ _ HF12.out]; rfl
          have hc48 : (w3.alloc (.cells #[.int .i64 0, .int .i64 0, .int .i64 0, .string ⟨#[]⟩, .string ⟨#[]⟩, .string ⟨#[]⟩, .int .i64 0, .int .i64 0] 37 (0, 0))).cell? ⟨w2.heap.size, 5, none⟩ = some (.string n) := by rw [cell_of_row _ _ _ _ _ _ HF17.out]; rfl
          have hc49 : w3.cell? ⟨w2.heap.size, 5, none⟩ = some (.string n) := by rw [cell_of_row _ _ _ _ _ _ HF12.out]; rfl
          have hc50 : (w3.alloc (.cells #[.int .i64 0, .int .i64 0, .int .i64 0, .string ⟨#[]⟩, .string ⟨#[]⟩, .string ⟨#[]⟩, .int .i64 0, .int .i64 0] 37 (0, 0))).cell? ⟨w2.heap.size, 6, none⟩ = some (.int .i64 t) := by rw [cell_of_row _ _ _ _ _ _ HF17.out]; rfl
          have hc51 : w3.cell? ⟨w2.heap.size, 6, none⟩ = some (.int .i64 t) := by rw [cell_of_row _ _ _ _ _ _ HF12.out]; rfl
          have hc52 : (w3.alloc (.cells #[.int .i64 0, .int .i64 0, .int .i64 0, .string ⟨#[]⟩, .string ⟨#[]⟩, .string ⟨#[]⟩, .int .i64 0, .int .i64 0] 37 (0, 0))).cell? ⟨w2.heap.size, 7, none⟩ = some (.int .i64 u) := by rw [cell_of_row _ _ _ _ _ _ HF17.out]; rfl
          have hc53 : w3.cell? ⟨w2.heap.size, 7, none⟩ = some (.int .i64 u) := by rw [cell_of_row _ _ _ _ _ _ HF12.out]; rfl
          have hl54 : w2.heap.size < w3.heap.size := lt_of_block HF12.out
          have hl55 : ¬ w2.heap.size = w3.heap.size := by omega
          have hc56 : (w3.alloc (.cells #[.int .i64 0, .int .i64 0, .int .i64 0, .string ⟨#[]⟩, .string ⟨#[]⟩, .string ⟨#[]⟩, .int .i64 0, .int .i64 0] 37 (0, 0))).cell? ⟨w3.heap.size, 0, none⟩ = some (.int .i64 0) := by rw [cell_of_row _ _ _ _ _ _ HF18.out]; rfl
          have hc57 : (w3.alloc (.cells #[.int .i64 0, .int .i64 0, .int .i64 0, .string ⟨#[]⟩, .string ⟨#[]⟩, .string ⟨#[]⟩, .int .i64 0, .int .i64 0] 37 (0, 0))).cell? ⟨w3.heap.size, 1, none⟩ = some (.int .i64 0) := by rw [cell_of_row _ _ _ _ _ _ HF18.out]; rfl
          have hc58 : (w3.alloc (.cells #[.int .i64 0, .int .i64 0, .int .i64 0, .string ⟨#[]⟩, .string ⟨#[]⟩, .string ⟨#[]⟩, .int .i64 0, .int .i64 0] 37 (0, 0))).cell? ⟨w3.heap.size, 2, none⟩ = some (.int .i64 0) := by rw [cell_of_row _ _ _ _ _ _ HF18.out]; rfl
          have hc59 : (w3.alloc (.cells #[.int .i64 0, .int .i64 0, .int .i64 0, .string ⟨#[]⟩, .string ⟨#[]⟩, .string ⟨#[]⟩, .int .i64 0, .int .i64 0] 37 (0, 0))).cell? ⟨w3.heap.size, 3, none⟩ = some (.string ⟨#[]⟩) := by rw [cell_of_row _ _ _ _ _ _ HF18.out]; rfl
          have hc60 : (w3.alloc (.cells #[.int .i64 0, .int .i64 0, .int .i64 0, .string ⟨#[]⟩, .string ⟨#[]⟩, .string ⟨#[]⟩, .int .i64 0, .int .i64 0] 37 (0, 0))).cell? ⟨w3.heap.size, 4, none⟩ = some (.string ⟨#[]⟩) := by rw [cell_of_row _ _ _ _ _ _ HF18.out]; rfl
          have hc61 : (w3.alloc (.cells #[.int .i64 0, .int .i64 0, .int .i64 0, .string ⟨#[]⟩, .string ⟨#[]⟩, .string ⟨#[]⟩, .int .i64 0, .int .i64 0] 37 (0, 0))).cell? ⟨w3.heap.size, 5, none⟩ = some (.string ⟨#[]⟩) := by rw [cell_of_row _ _ _ _ _ _ HF18.out]; rfl
          have hc62 : (w3.alloc (.cells #[.int .i64 0, .int .i64 0, .int .i64 0, .string ⟨#[]⟩, .string ⟨#[]⟩, .string ⟨#[]⟩, .int .i64 0, .int .i64 0] 37 (0, 0))).cell? ⟨w3.heap.size, 6, none⟩ = some (.int .i64 0) := by rw [cell_of_row _ _ _ _ _ _ HF18.out]; rfl
          have hc63 : (w3.alloc (.cells #[.int .i64 0, .int .i64 0, .int .i64 0, .string ⟨#[]⟩, .string ⟨#[]⟩, .string ⟨#[]⟩, .int .i64 0, .int .i64 0] 37 (0, 0))).cell? ⟨w3.heap.size, 7, none⟩ = some (.int .i64 0) := by rw [cell_of_row _ _ _ _ _ _ HF18.out]; rfl
          go_wp2_with fail
          refine (awake10 (w3.alloc (.cells #[.int .i64 0, .int .i64 0, .int .i64 0, .string ⟨#[]⟩, .string ⟨#[]⟩, .string ⟨#[]⟩, .int .i64 0, .int .i64 0] 37 (0, 0))) (HT.out.later HB19.out)).mono ?_
          rintro e w4 ⟨rfl, hb4⟩
          clear hc20 hc21 hc22 hc23 hc24 hc25 hc26 hc27 hc28 hc29 hc30 hc31 hc32 hc33 hc34 hc35 hl36 hl37 hc38 hc39 hc40 hc41 hc42 hc43 hc44 hc45 hc46 hc47 hc48 hc49 hc50 hc51 hc52 hc53 hl54 hl55 hc56 hc57 hc58 hc59 hc60 hc61 hc62 hc63
          have HF64 := Lib.hid (blk_below HF16.out hb4)
          have HF65 := Lib.hid (blk_below HF17.out hb4)
          have HF66 := Lib.hid (blk_below HF18.out hb4)
          have HB67 := Lib.hid (HB19.out.trans (hb4.mono HB19.out.size))
          clear hb4 HB19 HF16 HF11 HF17 HF12 HF18
          go_wp2_with fail
          go_ret
          exact ⟨rfl, HB67.out⟩
        · have h2 : (a == ep) = false := by rw [beq_eq_false_iff_ne]; exact h1
          clear hm h1
          have HB1 := Lib.hid (Below.refl w.heap.size w)
          go_enter Tryd.func6, Tryd.ntmps6
          go_wp2_with fail
          refine (HTK.out w (HT.out.later HB1.out)).mono ?_
          rintro e w1 ⟨rfl, hb1⟩
          have HB2 := Lib.hid (HB1.out.trans (hb1.mono HB1.out.size))
          clear hb1 HB1 
          have HF3 := Lib.hid (blk_new w1 (.cells #[.int .i64 a, .int .i64 b, .int .i64 k, .string x, .string o, .string n, .int .i64 t, .int .i64 u] 37 (0, 0)))
          have HB4 := Lib.hid (HB2.out.alloc HB2.out.size (.cells #[.int .i64 a, .int .i64 b, .int .i64 k, .string x, .string o, .string n, .int .i64 t, .int .i64 u] 37 (0, 0)))
          clear HB2
          go_wp2_with fail
          refine (HRT.out (w1.alloc (.cells #[.int .i64 a, .int .i64 b, .int .i64 k, .string x, .string o, .string n, .int .i64 t, .int .i64 u] 37 (0, 0)))).mono ?_
          rintro e w2 ⟨rfl, hb2⟩
          have HF5 := Lib.hid (blk_below HF3.out hb2)
          have HB6 := Lib.hid (HB4.out.trans (hb2.mono HB4.out.size))
          clear hb2 HB4 HF3
          have hk7 : w1.heap.size < w2.heap.size := lt_of_block HF5.out
          have HF8 := Lib.hid (blk_alloc HF5.out (.cells #[.int .i64 a, .int .i64 b, .int .i64 k, .string x, .string o, .string n, .int .i64 t, .int .i64 u] 37 (0, 0)))
          have HF9 := Lib.hid (blk_new w2 (.cells #[.int .i64 a, .int .i64 b, .int .i64 k, .string x, .string o, .string n, .int .i64 t, .int .i64 u] 37 (0, 0)))
          have HB10 := Lib.hid (HB6.out.alloc HB6.out.size (.cells #[.int .i64 a, .int .i64 b, .int .i64 k, .string x, .string o, .string n, .int .i64 t, .int .i64 u] 37 (0, 0)))
          clear HB6
          go_wp2_with fail
          refine (HIS.out (w2.alloc (.cells #[.int .i64 a, .int .i64 b, .int .i64 k, .string x, .string o, .string n, .int .i64 t, .int .i64 u] 37 (0, 0))) (HT.out.later HB10.out)).mono ?_
          rintro e w3 ⟨rfl, hb3⟩
          have HF11 := Lib.hid (blk_below HF8.out hb3)
          have HF12 := Lib.hid (blk_below HF9.out hb3)
          have HB13 := Lib.hid (HB10.out.trans (hb3.mono HB10.out.size))
          clear hb3 HB10 HF8 HF5 HF9
          have hk14 : w1.heap.size < w3.heap.size := lt_of_block HF11.out
          have hk15 : w2.heap.size < w3.heap.size := lt_of_block HF12.out
          have HF16 := Lib.hid (blk_alloc HF11.out (.cells #[.int .i64 0, .int .i64 0, .int .i64 0, .string ⟨#[]⟩, .string ⟨#[]⟩, .string ⟨#[]⟩, .int .i64 0, .int .i64 0] 37 (0, 0)))
          have HF17 := Lib.hid (blk_alloc HF12.out (.cells #[.int .i64 0, .int .i64 0, .int .i64 0, .string ⟨#[]⟩, .string ⟨#[]⟩, .string ⟨#[]⟩, .int .i64 0, .int .i64 0] 37 (0, 0)))
          have HF18 := Lib.hid (blk_new w3 (.cells #[.int .i64 0, .int .i64 0, .int .i64 0, .string ⟨#[]⟩, .string ⟨#[]⟩, .string ⟨#[]⟩, .int .i64 0, .int .i64 0] 37 (0, 0)))
          have HB19 := Lib.hid (HB13.out.alloc HB13.out.size (.cells #[.int .i64 0, .int .i64 0, .int .i64 0, .string ⟨#[]⟩, .string ⟨#[]⟩, .string ⟨#[]⟩, .int .i64 0, .int .i64 0] 37 (0, 0)))
          clear HB13
          have hc20 : (w3.alloc (.cells #[.int .i64 0, .int .i64 0, .int .i64 0, .string ⟨#[]⟩, .string ⟨#[]⟩, .string ⟨#[]⟩, .int .i64 0, .int .i64 0] 37 (0, 0))).cell? ⟨w1.heap.size, 0, none⟩ = some (.int .i64 a) := by rw [cell_of_row _ _ _ _ _ _ HF16.out]; rfl
          have hc21 : w3.cell? ⟨w1.heap.size, 0, none⟩ = some (.int .i64 a) := by rw [cell_of_row _ _ _ _ _ _ HF11.out]; rfl
          have hc22 : (w3.alloc (.cells #[.int .i64 0, .int .i64 0, .int .i64 0, .string ⟨#[]⟩, .string ⟨#[]⟩, .string ⟨#[]⟩, .int .i64 0, .int .i64 0] 37 (0, 0))).cell? ⟨w1.heap.size, 1, none⟩ = some (.int .i64 b) := by rw [cell_of_row _ _ _ _ _ _ HF16.out]; rfl
          have hc23 : w3.cell? ⟨w1.heap.size, 1, none⟩ = some (.int .i64 b) := by rw [cell_of_row _ _ _ _ _ _ HF11.out]; rfl
          have hc24 : (w3.alloc (.cells #[.int .i64 0, .int .i64 0, .int .i64 0, .string ⟨#[]⟩, .string ⟨#[]⟩, .string ⟨#[]⟩, .int .i64 0, .int .i64 0] 37 (0, 0))).cell? ⟨w1.heap.size, 2, none⟩ = some (.int .i64 k) := by rw [cell_of_row _ _ _ _ _ _ HF16.out]; rfl
          have hc25 : w3.cell? ⟨w1.heap.size, 2, none⟩ = some (.int .i64 k) := by rw [cell_of_row _ _ _ _ _ _ HF11.out]; rfl
          have hc26 : (w3.alloc (.cells #[.int .i64 0, .int .i64 0, .int .i64 0, .string ⟨#[]⟩, .string ⟨#[]⟩, .string ⟨#[]⟩, .int .i64 0, .int .i64 0] 37 (0, 0))).cell? ⟨w1.heap.size, 3, none⟩ = some (.string x) := by rw [cell_of_row _ _ _ _ _ _ HF16.out]; rfl
          have hc27 : w3.cell? ⟨w1.heap.size, 3, none⟩ = some (.string x) := by rw [cell_of_row _ _ _ _ _ _ HF11.out]; rfl
          have hc28 : (w3.alloc (.cells #[.int .i64 0, .int .i64 0, .int .i64 0, .string ⟨#[]⟩, .string ⟨#[]⟩, .string ⟨#[]⟩, .int .i64 0, .int .i64 0] 37 (0, 0))).cell? ⟨w1.heap.size, 4, none⟩ = some (.string o) := by rw [cell_of_row _ _ _ _ _ _ HF16.out]; rfl
          have hc29 : w3.cell? ⟨w1.heap.size, 4, none⟩ = some (.string o) := by rw [cell_of_row _ _ _ _ _ _ HF11.out]; rfl
          have hc30 : (w3.alloc (.cells #[.int .i64 0, .int .i64 0, .int .i64 0, .string ⟨#[]⟩, .string ⟨#[]⟩, .string ⟨#[]⟩, .int .i64 0, .int .i64 0] 37 (0, 0))).cell? ⟨w1.heap.size, 5, none⟩ = some (.string n) := by rw [cell_of_row _ _ _ _ _ _ HF16.out]; rfl
          have hc31 : w3.cell? ⟨w1.heap.size, 5, none⟩ = some (.string n) := by rw [cell_of_row _ _ _ _ _ _ HF11.out]; rfl
          have hc32 : (w3.alloc (.cells #[.int .i64 0, .int .i64 0, .int .i64 0, .string ⟨#[]⟩, .string ⟨#[]⟩, .string ⟨#[]⟩, .int .i64 0, .int .i64 0] 37 (0, 0))).cell? ⟨w1.heap.size, 6, none⟩ = some (.int .i64 t) := by rw [cell_of_row _ _ _ _ _ _ HF16.out]; rfl
          have hc33 : w3.cell? ⟨w1.heap.size, 6, none⟩ = some (.int .i64 t) := by rw [cell_of_row _ _ _ _ _ _ HF11.out]; rfl
          have hc34 : (w3.alloc (.cells #[.int .i64 0, .int .i64 0, .int .i64 0, .string ⟨#[]⟩, .string ⟨#[]⟩, .string ⟨#[]⟩, .int .i64 0, .int .i64 0] 37 (0, 0))).cell? ⟨w1.heap.size, 7, none⟩ = some (.int .i64 u) := by rw [cell_of_row _ _ _ _ _ _ HF16.out]; rfl
          have hc35 : w3.cell? ⟨w1.heap.size, 7, none⟩ = some (.int .i64 u) := by rw [cell_of_row _ _ _ _ _ _ HF11.out]; rfl
          have hl36 : w1.heap.size < w3.heap.size := lt_of_block HF11.out
          have hl37 : ¬ w1.heap.size = w3.heap.size := by omega
          have hc38 : (w3.alloc (.cells #[.int .i64 0, .int .i64 0, .int .i64 0, .string ⟨#[]⟩, .string ⟨#[]⟩, .string ⟨#[]⟩, .int .i64 0, .int .i64 0] 37 (0, 0))).cell? ⟨w2.heap.size, 0, none⟩ = some (.int .i64 a) := by rw [cell_of_row _ _ _ _ _ _ HF17.out]; rfl
          have hc39 : w3.cell? ⟨w2.heap.size, 0, none⟩ = some (.int .i64 a) := by rw [cell_of_row _ _ _ _ _ _ HF12.out]; rfl
          have hc40 : (w3.alloc (.cells #[.int .i64 0, .int .i64 0, .int .i64 0, .string ⟨#[]⟩, .string ⟨#[]⟩, .string ⟨#[]⟩, .int .i64 0, .int .i64 0] 37 (0, 0))).cell? ⟨w2.heap.size, 1, none⟩ = some (.int .i64 b) := by rw [cell_of_row _ _ _ _ _ _ HF17.out]; rfl
          have hc41 : w3.cell? ⟨w2.heap.size, 1, none⟩ = some (.int .i64 b) := by rw [cell_of_row _ _ _ _ _ _ HF12.out]; rfl
          have hc42 : (w3.alloc (.cells #[.int .i64 0, .int .i64 0, .int .i64 0, .string ⟨#[]⟩, .string ⟨#[]⟩, .string ⟨#[]⟩, .int .i64 0, .int .i64 0] 37 (0, 0))).cell? ⟨w2.heap.size, 2, none⟩ = some (.int .i64 k) := by rw [cell_of_row _ _ _ _ _ _ HF17.out]; rfl
          have hc43 : w3.cell? ⟨w2.heap.size, 2, none⟩ = some (.int .i64 k) := by rw [cell_of_row _ _ _ _ _ _ HF12.out]; rfl
          have hc44 : (w3.alloc (.cells #[.int .i64 0, .int .i64 0, .int .i64 0, .string ⟨#[]⟩, .string ⟨#[]⟩, .string ⟨#[]⟩, .int .i64 0, .int .i64 0] 37 (0, 0))).cell? ⟨w2.heap.size, 3, none⟩ = some (.string x) := by rw [cell_of_row _ _ _ _ _ _ HF17.out]; rfl
          have hc45 : w3.cell? ⟨w2.heap.size, 3, none⟩ = some (.string x) := by rw [cell_of_row _ _ _ _ _ _ HF12.out]; rfl
          have hc46 : (w3.alloc (.cells #[.int .i64 0, .int .i64 0, .int .i64 0, .string ⟨#[]⟩, .string ⟨#[]⟩, .string ⟨#[]⟩, .int .i64 0, .int .i64 0] 37 (0, 0))).cell? ⟨w2.heap.size, 4, none⟩ = some (.string o) := by rw [cell_of_row _ _ _ _ _ _ HF17.out]; rfl
          have hc47 : w3.cell? ⟨w2.heap.size, 4, none⟩ = some (.string o) := by rw [cell_of_row _ _ _ _ _ _ HF12.out]; rfl
          have hc48 : (w3.alloc (.cells #[.int .i64 0, .int .i64 0, .int .i64 0, .string ⟨#[]⟩, .string ⟨#[]⟩, .string ⟨#[]⟩, .int .i64 0, .int .i64 0] 37 (0, 0))).cell? ⟨w2.heap.size, 5, none⟩ = some (.string n) := by rw [cell_of_row _ _ _ _ _ _ HF17.out]; rfl
          have hc49 : w3.cell? ⟨w2.heap.size, 5, none⟩ = some (.string n) := by rw [cell_of_row _ _ _ _ _ _ HF12.out]; rfl
          have hc50 : (w3.alloc (.cells #[.int .i64 0, .int .i64 0, .int .i64 0, .string ⟨#[]⟩, .string ⟨#[]⟩, .string ⟨#[]⟩, .int .i64 0, .int .i64 0] 37 (0, 0))).cell? ⟨w2.heap.size, 6, none⟩ = some (.int .i64 t) := by rw [cell_of_row _ _ _ _ _ _ HF17.out]; rfl
          have hc51 : w3.cell? ⟨w2.heap.size, 6, none⟩ = some (.int .i64 t) := by rw [cell_of_row _ _ _ _ _ _ HF12.out]; rfl
          have hc52 : (w3.alloc (.cells #[.int .i64 0, .int .i64 0, .int .i64 0, .string ⟨#[]⟩, .string ⟨#[]⟩, .string ⟨#[]⟩, .int .i64 0, .int .i64 0] 37 (0, 0))).cell? ⟨w2.heap.size, 7, none⟩ = some (.int .i64 u) := by rw [cell_of_row _ _ _ _ _ _ HF17.out]; rfl
          have hc53 : w3.cell? ⟨w2.heap.size, 7, none⟩ = some (.int .i64 u) := by rw [cell_of_row _ _ _ _ _ _ HF12.out]; rfl
          have hl54 : w2.heap.size < w3.heap.size := lt_of_block HF12.out
          have hl55 : ¬ w2.heap.size = w3.heap.size := by omega
          have hc56 : (w3.alloc (.cells #[.int .i64 0, .int .i64 0, .int .i64 0, .string ⟨#[]⟩, .string ⟨#[]⟩, .string ⟨#[]⟩, .int .i64 0, .int .i64 0] 37 (0, 0))).cell? ⟨w3.heap.size, 0, none⟩ = some (.int .i64 0) := by rw [cell_of_row _ _ _ _ _ _ HF18.out]; rfl
          have hc57 : (w3.alloc (.cells #[.int .i64 0, .int .i64 0, .int .i64 0, .string ⟨#[]⟩, .string ⟨#[]⟩, .string ⟨#[]⟩, .int .i64 0, .int .i64 0] 37 (0, 0))).cell? ⟨w3.heap.size, 1, none⟩ = some (.int .i64 0) := by rw [cell_of_row _ _ _ _ _ _ HF18.out]; rfl
          have hc58 : (w3.alloc (.cells #[.int .i64 0, .int .i64 0, .int .i64 0, .string ⟨#[]⟩, .string ⟨#[]⟩, .string ⟨#[]⟩, .int .i64 0, .int .i64 0] 37 (0, 0))).cell? ⟨w3.heap.size, 2, none⟩ = some (.int .i64 0) := by rw [cell_of_row _ _ _ _ _ _ HF18.out]; rfl
          have hc59 : (w3.alloc (.cells #[.int .i64 0, .int .i64 0, .int .i64 0, .string ⟨#[]⟩, .string ⟨#[]⟩, .string ⟨#[]⟩, .int .i64 0, .int .i64 0] 37 (0, 0))).cell? ⟨w3.heap.size, 3, none⟩ = some (.string ⟨#[]⟩) := by rw [cell_of_row _ _ _ _ _ _ HF18.out]; rfl
          have hc60 : (w3.alloc (.cells #[.int .i64 0, .int .i64 0, .int .i64 0, .string ⟨#[]⟩, .string ⟨#[]⟩, .string ⟨#[]⟩, .int .i64 0, .int .i64 0] 37 (0, 0))).cell? ⟨w3.heap.size, 4, none⟩ = some (.string ⟨#[]⟩) := by rw [cell_of_row _ _ _ _ _ _ HF18.out]; rfl
          have hc61 : (w3.alloc (.cells #[.int .i64 0, .int .i64 0, .int .i64 0, .string ⟨#[]⟩, .string ⟨#[]⟩, .string ⟨#[]⟩, .int .i64 0, .int .i64 0] 37 (0, 0))).cell? ⟨w3.heap.size, 5, none⟩ = some (.string ⟨#[]⟩) := by rw [cell_of_row _ _ _ _ _ _ HF18.out]; rfl
          have hc62 : (w3.alloc (.cells #[.int .i64 0, .int .i64 0, .int .i64 0, .string ⟨#[]⟩, .string ⟨#[]⟩, .string ⟨#[]⟩, .int .i64 0, .int .i64 0] 37 (0, 0))).cell? ⟨w3.heap.size, 6, none⟩ = some (.int .i64 0) := by rw [cell_of_row _ _ _ _ _ _ HF18.out]; rfl
          have hc63 : (w3.alloc (.cells #[.int .i64 0, .int .i64 0, .int .i64 0, .string ⟨#[]⟩, .string ⟨#[]⟩, .string ⟨#[]⟩, .int .i64 0, .int .i64 0] 37 (0, 0))).cell? ⟨w3.heap.size, 7, none⟩ = some (.int .i64 0) := by rw [cell_of_row _ _ _ _ _ _ HF18.out]; rfl
          go_wp2_with fail
          refine (awake10 (w3.alloc (.cells #[.int .i64 0, .int .i64 0, .int .i64 0, .string ⟨#[]⟩, .string ⟨#[]⟩, .string ⟨#[]⟩, .int .i64 0, .int .i64 0] 37 (0, 0))) (HT.out.later HB19.out)).mono ?_
          rintro e w4 ⟨rfl, hb4⟩
          clear hc20 hc21 hc22 hc23 hc24 hc25 hc26 hc27 hc28 hc29 hc30 hc31 hc32 hc33 hc34 hc35 hl36 hl37 hc38 hc39 hc40 hc41 hc42 hc43 hc44 hc45 hc46 hc47 hc48 hc49 hc50 hc51 hc52 hc53 hl54 hl55 hc56 hc57 hc58 hc59 hc60 hc61 hc62 hc63
          have HF64 := Lib.hid (blk_below HF16.out hb4)
          have HF65 := Lib.hid (blk_below HF17.out hb4)
          have HF66 := Lib.hid (blk_below HF18.out hb4)
          have HB67 := Lib.hid (HB19.out.trans (hb4.mono HB19.out.size))
          clear hb4 HB19 HF16 HF11 HF17 HF12 HF18
          go_wp2_with fail
          go_ret
          exact ⟨rfl, HB67.out⟩
    · have HTK := Lib.hid (fun (W : World) (g : Tab W) => etake_no S W g h1 hr)
      have HRT := Lib.hid (fun (W : World) => ertake_no S W h1 hr)
      have HIS := Lib.hid (fun (W : World) (g : Tab W) => eis_no S ep sq W g h1 hr)
      unfold recZ at HTK HRT HIS
      clear h1 hr
      have HB1 := Lib.hid (Below.refl w.heap.size w)
      go_enter Tryd.func6, Tryd.ntmps6
      go_wp2_with fail
      refine (HTK.out w (HT.out.later HB1.out)).mono ?_
      rintro e w1 ⟨rfl, hb1⟩
      have HB2 := Lib.hid (HB1.out.trans (hb1.mono HB1.out.size))
      clear hb1 HB1 
      have HF3 := Lib.hid (blk_new w1 (.cells #[.int .i64 0, .int .i64 0, .int .i64 0, .string ⟨#[]⟩, .string ⟨#[]⟩, .string ⟨#[]⟩, .int .i64 0, .int .i64 0] 37 (0, 0)))
      have HB4 := Lib.hid (HB2.out.alloc HB2.out.size (.cells #[.int .i64 0, .int .i64 0, .int .i64 0, .string ⟨#[]⟩, .string ⟨#[]⟩, .string ⟨#[]⟩, .int .i64 0, .int .i64 0] 37 (0, 0)))
      clear HB2
      go_wp2_with fail
      refine (HRT.out (w1.alloc (.cells #[.int .i64 0, .int .i64 0, .int .i64 0, .string ⟨#[]⟩, .string ⟨#[]⟩, .string ⟨#[]⟩, .int .i64 0, .int .i64 0] 37 (0, 0)))).mono ?_
      rintro e w2 ⟨rfl, hb2⟩
      have HF5 := Lib.hid (blk_below HF3.out hb2)
      have HB6 := Lib.hid (HB4.out.trans (hb2.mono HB4.out.size))
      clear hb2 HB4 HF3
      have hk7 : w1.heap.size < w2.heap.size := lt_of_block HF5.out
      have HF8 := Lib.hid (blk_alloc HF5.out (.cells #[.int .i64 0, .int .i64 0, .int .i64 0, .string ⟨#[]⟩, .string ⟨#[]⟩, .string ⟨#[]⟩, .int .i64 0, .int .i64 0] 37 (0, 0)))
      have HF9 := Lib.hid (blk_new w2 (.cells #[.int .i64 0, .int .i64 0, .int .i64 0, .string ⟨#[]⟩, .string ⟨#[]⟩, .string ⟨#[]⟩, .int .i64 0, .int .i64 0] 37 (0, 0)))
      have HB10 := Lib.hid (HB6.out.alloc HB6.out.size (.cells #[.int .i64 0, .int .i64 0, .int .i64 0, .string ⟨#[]⟩, .string ⟨#[]⟩, .string ⟨#[]⟩, .int .i64 0, .int .i64 0] 37 (0, 0)))
      clear HB6
      go_wp2_with fail
      refine (HIS.out (w2.alloc (.cells #[.int .i64 0, .int .i64 0, .int .i64 0, .string ⟨#[]⟩, .string ⟨#[]⟩, .string ⟨#[]⟩, .int .i64 0, .int .i64 0] 37 (0, 0))) (HT.out.later HB10.out)).mono ?_
      rintro e w3 ⟨rfl, hb3⟩
      have HF11 := Lib.hid (blk_below HF8.out hb3)
      have HF12 := Lib.hid (blk_below HF9.out hb3)
      have HB13 := Lib.hid (HB10.out.trans (hb3.mono HB10.out.size))
      clear hb3 HB10 HF8 HF5 HF9
      have hk14 : w1.heap.size < w3.heap.size := lt_of_block HF11.out
      have hk15 : w2.heap.size < w3.heap.size := lt_of_block HF12.out
      have HF16 := Lib.hid (blk_alloc HF11.out (.cells #[.int .i64 0, .int .i64 0, .int .i64 0, .string ⟨#[]⟩, .string ⟨#[]⟩, .string ⟨#[]⟩, .int .i64 0, .int .i64 0] 37 (0, 0)))
      have HF17 := Lib.hid (blk_alloc HF12.out (.cells #[.int .i64 0, .int .i64 0, .int .i64 0, .string ⟨#[]⟩, .string ⟨#[]⟩, .string ⟨#[]⟩, .int .i64 0, .int .i64 0] 37 (0, 0)))
      have HF18 := Lib.hid (blk_new w3 (.cells #[.int .i64 0, .int .i64 0, .int .i64 0, .string ⟨#[]⟩, .string ⟨#[]⟩, .string ⟨#[]⟩, .int .i64 0, .int .i64 0] 37 (0, 0)))
      have HB19 := Lib.hid (HB13.out.alloc HB13.out.size (.cells #[.int .i64 0, .int .i64 0, .int .i64 0, .string ⟨#[]⟩, .string ⟨#[]⟩, .string ⟨#[]⟩, .int .i64 0, .int .i64 0] 37 (0, 0)))
      clear HB13
      have hc20 : (w3.alloc (.cells #[.int .i64 0, .int .i64 0, .int .i64 0, .string ⟨#[]⟩, .string ⟨#[]⟩, .string ⟨#[]⟩, .int .i64 0, .int .i64 0] 37 (0, 0))).cell? ⟨w1.heap.size, 0, none⟩ = some (.int .i64 0) := by rw [cell_of_row _ _ _ _ _ _ HF16.out]; rfl
      have hc21 : w3.cell? ⟨w1.heap.size, 0, none⟩ = some (.int .i64 0) := by rw [cell_of_row _ _ _ _ _ _ HF11.out]; rfl
      have hc22 : (w3.alloc (.cells #[.int .i64 0, .int .i64 0, .int .i64 0, .string ⟨#[]⟩, .string ⟨#[]⟩, .string ⟨#[]⟩, .int .i64 0, .int .i64 0] 37 (0, 0))).cell? ⟨w1.heap.size, 1, none⟩ = some (.int .i64 0) := by rw [cell_of_row _ _ _ _ _ _ HF16.out]; rfl
      have hc23 : w3.cell? ⟨w1.heap.size, 1, none⟩ = some (.int .i64 0) := by rw [cell_of_row _ _ _ _ _ _ HF11.out]; rfl
      have hc24 : (w3.alloc (.cells #[.int .i64 0, .int .i64 0, .int .i64 0, .string ⟨#[]⟩, .string ⟨#[]⟩, .string ⟨#[]⟩, .int .i64 0, .int .i64 0] 37 (0, 0))).cell? ⟨w1.heap.size, 2, none⟩ = some (.int .i64 0) := by rw [cell_of_row _ _ _ _ _ _ HF16.out]; rfl
      have hc25 : w3.cell? ⟨w1.heap.size, 2, none⟩ = some (.int .i64 0) := by rw [cell_of_row _ _ _ _ _ _ HF11.out]; rfl
      have hc26 : (w3.alloc (.cells #[.int .i64 0, .int .i64 0, .int .i64 0, .string ⟨#[]⟩, .string ⟨#[]⟩, .string ⟨#[]⟩, .int .i64 0, .int .i64 0] 37 (0, 0))).cell? ⟨w1.heap.size, 3, none⟩ = some (.string ⟨#[]⟩) := by rw [cell_of_row _ _ _ _ _ _ HF16.out]; rfl
      have hc27 : w3.cell? ⟨w1.heap.size, 3, none⟩ = some (.string ⟨#[]⟩) := by rw [cell_of_row _ _ _ _ _ _ HF11.out]; rfl
      have hc28 : (w3.alloc (.cells #[.int .i64 0, .int .i64 0, .int .i64 0, .string ⟨#[]⟩, .string ⟨#[]⟩, .string ⟨#[]⟩, .int .i64 0, .int .i64 0] 37 (0, 0))).cell? ⟨w1.heap.size, 4, none⟩ = some (.string ⟨#[]⟩) := by rw [cell_of_row _ _ _ _ _ _ HF16.out]; rfl
      have hc29 : w3.cell? ⟨w1.heap.size, 4, none⟩ = some (.string ⟨#[]⟩) := by rw [cell_of_row _ _ _ _ _ _ HF11.out]; rfl
      have hc30 : (w3.alloc (.cells #[.int .i64 0, .int .i64 0, .int .i64 0, .string ⟨#[]⟩, .string ⟨#[]⟩, .string ⟨#[]⟩, .int .i64 0, .int .i64 0] 37 (0, 0))).cell? ⟨w1.heap.size, 5, none⟩ = some (.string ⟨#[]⟩) := by rw [cell_of_row _ _ _ _ _ _ HF16.out]; rfl
      have hc31 : w3.cell? ⟨w1.heap.size, 5, none⟩ = some (.string ⟨#[]⟩) := by rw [cell_of_row _ _ _ _ _ _ HF11.out]; rfl
      have hc32 : (w3.alloc (.cells #[.int .i64 0, .int .i64 0, .int .i64 0, .string ⟨#[]⟩, .string ⟨#[]⟩, .string ⟨#[]⟩, .int .i64 0, .int .i64 0] 37 (0, 0))).cell? ⟨w1.heap.size, 6, none⟩ = some (.int .i64 0) := by rw [cell_of_row _ _ _ _ _ _ HF16.out]; rfl
      have hc33 : w3.cell? ⟨w1.heap.size, 6, none⟩ = some (.int .i64 0) := by rw [cell_of_row _ _ _ _ _ _ HF11.out]; rfl
      have hc34 : (w3.alloc (.cells #[.int .i64 0, .int .i64 0, .int .i64 0, .string ⟨#[]⟩, .string ⟨#[]⟩, .string ⟨#[]⟩, .int .i64 0, .int .i64 0] 37 (0, 0))).cell? ⟨w1.heap.size, 7, none⟩ = some (.int .i64 0) := by rw [cell_of_row _ _ _ _ _ _ HF16.out]; rfl
      have hc35 : w3.cell? ⟨w1.heap.size, 7, none⟩ = some (.int .i64 0) := by rw [cell_of_row _ _ _ _ _ _ HF11.out]; rfl
      have hl36 : w1.heap.size < w3.heap.size := lt_of_block HF11.out
      have hl37 : ¬ w1.heap.size = w3.heap.size := by omega
      have hc38 : (w3.alloc (.cells #[.int .i64 0, .int .i64 0, .int .i64 0, .string ⟨#[]⟩, .string ⟨#[]⟩, .string ⟨#[]⟩, .int .i64 0, .int .i64 0] 37 (0, 0))).cell? ⟨w2.heap.size, 0, none⟩ = some (.int .i64 0) := by rw [cell_of_row _ _ _ _ _ _ HF17.out]; rfl
      have hc39 : w3.cell? ⟨w2.heap.size, 0, none⟩ = some (.int .i64 0) := by rw [cell_of_row _ _ _ _ _ _ HF12.out]; rfl
      have hc40 : (w3.alloc (.cells #[.int .i64 0, .int .i64 0, .int .i64 0, .string ⟨#[]⟩, .string ⟨#[]⟩, .string ⟨#[]⟩, .int .i64 0, .int .i64 0] 37 (0, 0))).cell? ⟨w2.heap.size, 1, none⟩ = some (.int .i64 0) := by rw [cell_of_row _ _ _ _ _ _ HF17.out]; rfl
      have hc41 : w3.cell? ⟨w2.heap.size, 1, none⟩ = some (.int .i64 0) := by rw [cell_of_row _ _ _ _ _ _ HF12.out]; rfl
      have hc42 : (w3.alloc (.cells #[.int .i64 0, .int .i64 0, .int .i64 0, .string ⟨#[]⟩, .string ⟨#[]⟩, .string ⟨#[]⟩, .int .i64 0, .int .i64 0] 37 (0, 0))).cell? ⟨w2.heap.size, 2, none⟩ = some (.int .i64 0) := by rw [cell_of_row _ _ _ _ _ _ HF17.out]; rfl
      have hc43 : w3.cell? ⟨w2.heap.size, 2, none⟩ = some (.int .i64 0) := by rw [cell_of_row _ _ _ _ _ _ HF12.out]; rfl
      have hc44 : (w3.alloc (.cells #[.int .i64 0, .int .i64 0, .int .i64 0, .string ⟨#[]⟩, .string ⟨#[]⟩, .string ⟨#[]⟩, .int .i64 0, .int .i64 0] 37 (0, 0))).cell? ⟨w2.heap.size, 3, none⟩ = some (.string ⟨#[]⟩) := by rw [cell_of_row _ _ _ _ _ _ HF17.out]; rfl
      have hc45 : w3.cell? ⟨w2.heap.size, 3, none⟩ = some (.string ⟨#[]⟩) := by rw [cell_of_row _ _ _ _ _ _ HF12.out]; rfl
      have hc46 : (w3.alloc (.cells #[.int .i64 0, .int .i64 0, .int .i64 0, .string ⟨#[]⟩, .string ⟨#[]⟩, .string ⟨#[]⟩, .int .i64 0, .int .i64 0] 37 (0, 0))).cell? ⟨w2.heap.size, 4, none⟩ = some (.string ⟨#[]⟩) := by rw [cell_of_row _ _ _ _ _ _ HF17.out]; rfl
      have hc47 : w3.cell? ⟨w2.heap.size, 4, none⟩ = some (.string ⟨#[]⟩) := by rw [cell_of_row _ _ _ _ _ _ HF12.out]; rfl
      have hc48 : (w3.alloc (.cells #[.int .i64 0, .int .i64 0, .int .i64 0, .string ⟨#[]⟩, .string ⟨#[]⟩, .string ⟨#[]⟩, .int .i64 0, .int .i64 0] 37 (0, 0))).cell? ⟨w2.heap.size, 5, none⟩ = some (.string ⟨#[]⟩) := by rw [cell_of_row _ _ _ _ _ _ HF17.out]; rfl
      have hc49 : w3.cell? ⟨w2.heap.size, 5, none⟩ = some (.string ⟨#[]⟩) := by rw [cell_of_row _ _ _ _ _ _ HF12.out]; rfl
      have hc50 : (w3.alloc (.cells #[.int .i64 0, .int .i64 0, .int .i64 0, .string ⟨#[]⟩, .string ⟨#[]⟩, .string ⟨#[]⟩, .int .i64 0, .int .i64 0] 37 (0, 0))).cell? ⟨w2.heap.size, 6, none⟩ = some (.int .i64 0) := by rw [cell_of_row _ _ _ _ _ _ HF17.out]; rfl
      have hc51 : w3.cell? ⟨w2.heap.size, 6, none⟩ = some (.int .i64 0) := by rw [cell_of_row _ _ _ _ _ _ HF12.out]; rfl
      have hc52 : (w3.alloc (.cells #[.int .i64 0, .int .i64 0, .int .i64 0, .string ⟨#[]⟩, .string ⟨#[]⟩, .string ⟨#[]⟩, .int .i64 0, .int .i64 0] 37 (0, 0))).cell? ⟨w2.heap.size, 7, none⟩ = some (.int .i64 0) := by rw [cell_of_row _ _ _ _ _ _ HF17.out]; rfl
      have hc53 : w3.cell? ⟨w2.heap.size, 7, none⟩ = some (.int .i64 0) := by rw [cell_of_row _ _ _ _ _ _ HF12.out]; rfl
      have hl54 : w2.heap.size < w3.heap.size := lt_of_block HF12.out
      have hl55 : ¬ w2.heap.size = w3.heap.size := by omega
      have hc56 : (w3.alloc (.cells #[.int .i64 0, .int .i64 0, .int .i64 0, .string ⟨#[]⟩, .string ⟨#[]⟩, .string ⟨#[]⟩, .int .i64 0, .int .i64 0] 37 (0, 0))).cell? ⟨w3.heap.size, 0, none⟩ = some (.int .i64 0) := by rw [cell_of_row _ _ _ _ _ _ HF18.out]; rfl
      have hc57 : (w3.alloc (.cells #[.int .i64 0, .int .i64 0, .int .i64 0, .string ⟨#[]⟩, .string ⟨#[]⟩, .string ⟨#[]⟩, .int .i64 0, .int .i64 0] 37 (0, 0))).cell? ⟨w3.heap.size, 1, none⟩ = some (.int .i64 0) := by rw [cell_of_row _ _ _ _ _ _ HF18.out]; rfl
      have hc58 : (w3.alloc (.cells #[.int .i64 0, .int .i64 0, .int .i64 0, .string ⟨#[]⟩, .string ⟨#[]⟩, .string ⟨#[]⟩, .int .i64 0, .int .i64 0] 37 (0, 0))).cell? ⟨w3.heap.size, 2, none⟩ = some (.int .i64 0) := by rw [cell_of_row _ _ _ _ _ _ HF18.out]; rfl
      have hc59 : (w3.alloc (.cells #[.int .i64 0, .int .i64 0, .int .i64 0, .string ⟨#[]⟩, .string ⟨#[]⟩, .string ⟨#[]⟩, .int .i64 0, .int .i64 0] 37 (0, 0))).cell? ⟨w3.heap.size, 3, none⟩ = some (.string ⟨#[]⟩) := by rw [cell_of_row _ _ _ _ _ _ HF18.out]; rfl
      have hc60 : (w3.alloc (.cells #[.int .i64 0, .int .i64 0, .int .i64 0, .string ⟨#[]⟩, .string ⟨#[]⟩, .string ⟨#[]⟩, .int .i64 0, .int .i64 0] 37 (0, 0))).cell? ⟨w3.heap.size, 4, none⟩ = some (.string ⟨#[]⟩) := by rw [cell_of_row _ _ _ _ _ _ HF18.out]; rfl
      have hc61 : (w3.alloc (.cells #[.int .i64 0, .int .i64 0, .int .i64 0, .string ⟨#[]⟩, .string ⟨#[]⟩, .string ⟨#[]⟩, .int .i64 0, .int .i64 0] 37 (0, 0))).cell? ⟨w3.heap.size, 5, none⟩ = some (.string ⟨#[]⟩) := by rw [cell_of_row _ _ _ _ _ _ HF18.out]; rfl
      have hc62 : (w3.alloc (.cells #[.int .i64 0, .int .i64 0, .int .i64 0, .string ⟨#[]⟩, .string ⟨#[]⟩, .string ⟨#[]⟩, .int .i64 0, .int .i64 0] 37 (0, 0))).cell? ⟨w3.heap.size, 6, none⟩ = some (.int .i64 0) := by rw [cell_of_row _ _ _ _ _ _ HF18.out]; rfl
      have hc63 : (w3.alloc (.cells #[.int .i64 0, .int .i64 0, .int .i64 0, .string ⟨#[]⟩, .string ⟨#[]⟩, .string ⟨#[]⟩, .int .i64 0, .int .i64 0] 37 (0, 0))).cell? ⟨w3.heap.size, 7, none⟩ = some (.int .i64 0) := by rw [cell_of_row _ _ _ _ _ _ HF18.out]; rfl
      go_wp2_with fail
      refine (awake10 (w3.alloc (.cells #[.int .i64 0, .int .i64 0, .int .i64 0, .string ⟨#[]⟩, .string ⟨#[]⟩, .string ⟨#[]⟩, .int .i64 0, .int .i64 0] 37 (0, 0))) (HT.out.later HB19.out)).mono ?_
      rintro e w4 ⟨rfl, hb4⟩
      clear hc20 hc21 hc22 hc23 hc24 hc25 hc26 hc27 hc28 hc29 hc30 hc31 hc32 hc33 hc34 hc35 hl36 hl37 hc38 hc39 hc40 hc41 hc42 hc43 hc44 hc45 hc46 hc47 hc48 hc49 hc50 hc51 hc52 hc53 hl54 hl55 hc56 hc57 hc58 hc59 hc60 hc61 hc62 hc63
      have HF64 := Lib.hid (blk_below HF16.out hb4)
      have HF65 := Lib.hid (blk_below HF17.out hb4)
      have HF66 := Lib.hid (blk_below HF18.out hb4)
      have HB67 := Lib.hid (HB19.out.trans (hb4.mono HB19.out.size))
      clear hb4 HB19 HF16 HF11 HF17 HF12 HF18
      go_wp2_with fail
      go_ret
      exact ⟨rfl, HB67.out⟩
  · have hd : decide ((1000 : Int) < (S.size : Int)) = true := decide_eq_true (by omega)
    clear h1
    have HB1 := Lib.hid (Below.refl w.heap.size w)
    go_enter Tryd.func6, Tryd.ntmps6
    go_wp2_with fail
    refine (awake10 w (HT.out.later HB1.out)).mono ?_
    rintro e w1 ⟨rfl, hb1⟩
    have HB2 := Lib.hid (HB1.out.trans (hb1.mono HB1.out.size))
    clear hb1 HB1 
    go_wp2_with fail
    go_ret
    exact ⟨rfl, HB2.out⟩
end Go.Proofs.YtpiafgdbjpfcaaaDoor.LEntryTakes
