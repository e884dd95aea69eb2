/- The walk of EntryBack over this translation. Condition: the table of crc. -/
import Derived.Test.YtpiafgdbjpfcaaaDoorRows
import Derived.Test.YtpiafgdbjpfcaaaDoorEw
import Derived.Deep.DeepCutAuto
namespace Go.Proofs.YtpiafgdbjpfcaaaDoor.LEntryBack
open Go.RowKit Vi Cm

theorem not_rec0 : ¬ IsRec (noughts 128) := by
  rintro ⟨a, b, k, x, o, n, t, u, h, hs⟩
  have hf := (rec_front h).2
  rw [← hs] at hf
  have h1 := congrArg ByteArray.size hf
  rw [sealH_size] at h1
  have h2 : (bareT (noughts 128)).size = 0 := by decide +kernel
  omega
theorem n128 : (noughts 128).size ≤ 1000 := by decide +kernel
set_option maxHeartbeats 8000000 in
set_option maxRecDepth 100000 in
theorem walk (a b k : Int) (x o n : ByteArray) (t u : Int) (S : ByteArray) (w : World) (hT : Tab w) (hx : x.size ≤ maxLen) :
    Calls Tryd.prog 7 #[.agg #[.int .i64 a, .int .i64 b, .int .i64 k, .string x, .string o, .string n, .int .i64 t, .int .i64 u], .string S] w fun e w' => e = .returned (.bool true) ∧ Below w.heap.size w w' := by
  have HT := Lib.hid hT
  clear hT
  by_cases h1 : x.size ≤ 200 ∧ o.size ≤ 200 ∧ n.size ≤ 200
  · have HF := Lib.hid (fun W : World => few10_any a b k x o n t u true W (decide_eq_true h1))
    by_cases h2 : S.size ≤ 1000
    · have hd : decide ((1000 : Int) < (S.size : Int)) = false := decide_eq_false (by omega)
      have HNO := Lib.hid (fun W : World => noughts128_any W)
      have HT3 := Lib.hid (fun (W : World) (g : Tab W) => etake_no (noughts 128) W g n128 not_rec0)
      unfold recZ at HT3
      generalize noughts 128 = N at HNO HT3
      cases hr : rok a b k x o n t u with
      | true =>
        have HPU := Lib.hid (fun (W : World) (g : Tab W) => erput_yes a b k x o n t u W g hr)
        have HTK := Lib.hid (fun (W : World) (g : Tab W) => etake_yes a b k x o n t u W g hr)
        have hz := rec_size hr
        unfold recV at HTK
        generalize recS a b k x o n t u = Q at HPU HTK hz
        have hs : ((Q.size : Int) == 128) = true := by rw [hz]; rfl
        have hs2 : (Q.size == 128) = true := by rw [hz]; rfl
        clear hr h1 hx hz
        by_cases hr2 : IsRec S
        · obtain ⟨a2, b2, k2, x2, o2, n2, t2, u2, h, rfl⟩ := hr2
          have HT2 := Lib.hid (fun (W : World) (g : Tab W) => etake_yes a2 b2 k2 x2 o2 n2 t2 u2 W g h)
          have HP2 := Lib.hid (fun (W : World) (g : Tab W) => erput_yes a2 b2 k2 x2 o2 n2 t2 u2 W g h)
          unfold recV at HT2
          generalize recS a2 b2 k2 x2 o2 n2 t2 u2 = S at *
          have hss : (S.toList == S.toList) = true := by simp
          have hss2 : (S.toList != S.toList) = false := by simp
          clear h h2
          have HB1 := Lib.hid (Below.refl w.heap.size w)
          go_enter Tryd.func7, Tryd.ntmps7
          have HF2 := Lib.hid (blk_new w (.cells #[.int .i64 a, .int .i64 b, .int .i64 k, .string x, .string o, .string n, .int .i64 t, .int .i64 u] 37 (0, 0)))
          have HB3 := Lib.hid (HB1.out.alloc HB1.out.size (.cells #[.int .i64 a, .int .i64 b, .int .i64 k, .string x, .string o, .string n, .int .i64 t, .int .i64 u] 37 (0, 0)))
          clear HB1
          have hc4 : (w.alloc (.cells #[.int .i64 a, .int .i64 b, .int .i64 k, .string x, .string o, .string n, .int .i64 t, .int .i64 u] 37 (0, 0))).cell? ⟨w.heap.size, 0, none⟩ = some (.int .i64 a) := by rw [cell_of_row _ _ _ _ _ _ HF2.out]; rfl
          have hc5 : (w.alloc (.cells #[.int .i64 a, .int .i64 b, .int .i64 k, .string x, .string o, .string n, .int .i64 t, .int .i64 u] 37 (0, 0))).cell? ⟨w.heap.size, 1, none⟩ = some (.int .i64 b) := by rw [cell_of_row _ _ _ _ _ _ HF2.out]; rfl
          have hc6 : (w.alloc (.cells #[.int .i64 a, .int .i64 b, .int .i64 k, .string x, .string o, .string n, .int .i64 t, .int .i64 u] 37 (0, 0))).cell? ⟨w.heap.size, 2, none⟩ = some (.int .i64 k) := by rw [cell_of_row _ _ _ _ _ _ HF2.out]; rfl
          have hc7 : (w.alloc (.cells #[.int .i64 a, .int .i64 b, .int .i64 k, .string x, .string o, .string n, .int .i64 t, .int .i64 u] 37 (0, 0))).cell? ⟨w.heap.size, 3, none⟩ = some (.string x) := by rw [cell_of_row _ _ _ _ _ _ HF2.out]; rfl
          have hc8 : (w.alloc (.cells #[.int .i64 a, .int .i64 b, .int .i64 k, .string x, .string o, .string n, .int .i64 t, .int .i64 u] 37 (0, 0))).cell? ⟨w.heap.size, 4, none⟩ = some (.string o) := by rw [cell_of_row _ _ _ _ _ _ HF2.out]; rfl
          have hc9 : (w.alloc (.cells #[.int .i64 a, .int .i64 b, .int .i64 k, .string x, .string o, .string n, .int .i64 t, .int .i64 u] 37 (0, 0))).cell? ⟨w.heap.size, 5, none⟩ = some (.string n) := by rw [cell_of_row _ _ _ _ _ _ HF2.out]; rfl
          have hc10 : (w.alloc (.cells #[.int .i64 a, .int .i64 b, .int .i64 k, .string x, .string o, .string n, .int .i64 t, .int .i64 u] 37 (0, 0))).cell? ⟨w.heap.size, 6, none⟩ = some (.int .i64 t) := by rw [cell_of_row _ _ _ _ _ _ HF2.out]; rfl
          have hc11 : (w.alloc (.cells #[.int .i64 a, .int .i64 b, .int .i64 k, .string x, .string o, .string n, .int .i64 t, .int .i64 u] 37 (0, 0))).cell? ⟨w.heap.size, 7, none⟩ = some (.int .i64 u) := by rw [cell_of_row _ _ _ _ _ _ HF2.out]; rfl
          go_wp2_with fail
          refine (HF.out (w.alloc (.cells #[.int .i64 a, .int .i64 b, .int .i64 k, .string x, .string o, .string n, .int .i64 t, .int .i64 u] 37 (0, 0)))).mono ?_
          rintro e w1 ⟨rfl, hb1⟩
          clear hc4 hc5 hc6 hc7 hc8 hc9 hc10 hc11
          have HF12 := Lib.hid (blk_below HF2.out hb1)
          have HB13 := Lib.hid (HB3.out.trans (hb1.mono HB3.out.size))
          clear hb1 HB3 HF2
          have hc14 : w1.cell? ⟨w.heap.size, 0, none⟩ = some (.int .i64 a) := by rw [cell_of_row _ _ _ _ _ _ HF12.out]; rfl
          have hc15 : w1.cell? ⟨w.heap.size, 1, none⟩ = some (.int .i64 b) := by rw [cell_of_row _ _ _ _ _ _ HF12.out]; rfl
          have hc16 : w1.cell? ⟨w.heap.size, 2, none⟩ = some (.int .i64 k) := by rw [cell_of_row _ _ _ _ _ _ HF12.out]; rfl
          have hc17 : w1.cell? ⟨w.heap.size, 3, none⟩ = some (.string x) := by rw [cell_of_row _ _ _ _ _ _ HF12.out]; rfl
          have hc18 : w1.cell? ⟨w.heap.size, 4, none⟩ = some (.string o) := by rw [cell_of_row _ _ _ _ _ _ HF12.out]; rfl
          have hc19 : w1.cell? ⟨w.heap.size, 5, none⟩ = some (.string n) := by rw [cell_of_row _ _ _ _ _ _ HF12.out]; rfl
          have hc20 : w1.cell? ⟨w.heap.size, 6, none⟩ = some (.int .i64 t) := by rw [cell_of_row _ _ _ _ _ _ HF12.out]; rfl
          have hc21 : w1.cell? ⟨w.heap.size, 7, none⟩ = some (.int .i64 u) := by rw [cell_of_row _ _ _ _ _ _ HF12.out]; rfl
          go_wp2_with fail
          refine (HPU.out w1 (HT.out.later HB13.out)).mono ?_
          rintro e w2 ⟨rfl, hb2⟩
          clear hc14 hc15 hc16 hc17 hc18 hc19 hc20 hc21
          have HF22 := Lib.hid (blk_below HF12.out hb2)
          have HB23 := Lib.hid (HB13.out.trans (hb2.mono HB13.out.size))
          clear hb2 HB13 HF12
          go_wp2_with fail
          refine (HTK.out w2 (HT.out.later HB23.out)).mono ?_
          rintro e w3 ⟨rfl, hb3⟩
          have HF24 := Lib.hid (blk_below HF22.out hb3)
          have HB25 := Lib.hid (HB23.out.trans (hb3.mono HB23.out.size))
          clear hb3 HB23 HF22
          have hk26 : w.heap.size < w3.heap.size := lt_of_block HF24.out
          have HF27 := Lib.hid (blk_alloc HF24.out (.cells #[.int .i64 a, .int .i64 b, .int .i64 k, .string x, .string o, .string n, .int .i64 t, .int .i64 u] 37 (0, 0)))
          have HF28 := Lib.hid (blk_new w3 (.cells #[.int .i64 a, .int .i64 b, .int .i64 k, .string x, .string o, .string n, .int .i64 t, .int .i64 u] 37 (0, 0)))
          have HB29 := Lib.hid (HB25.out.alloc HB25.out.size (.cells #[.int .i64 a, .int .i64 b, .int .i64 k, .string x, .string o, .string n, .int .i64 t, .int .i64 u] 37 (0, 0)))
          clear HB25
          have hc30 : (w3.alloc (.cells #[.int .i64 a, .int .i64 b, .int .i64 k, .string x, .string o, .string n, .int .i64 t, .int .i64 u] 37 (0, 0))).cell? ⟨w.heap.size, 0, none⟩ = some (.int .i64 a) := by rw [cell_of_row _ _ _ _ _ _ HF27.out]; rfl
          have hc31 : w3.cell? ⟨w.heap.size, 0, none⟩ = some (.int .i64 a) := by rw [cell_of_row _ _ _ _ _ _ HF24.out]; rfl
          have hc32 : (w3.alloc (.cells #[.int .i64 a, .int .i64 b, .int .i64 k, .string x, .string o, .string n, .int .i64 t, .int .i64 u] 37 (0, 0))).cell? ⟨w.heap.size, 1, none⟩ = some (.int .i64 b) := by rw [cell_of_row _ _ _ _ _ _ HF27.out]; rfl
          have hc33 : w3.cell? ⟨w.heap.size, 1, none⟩ = some (.int .i64 b) := by rw [cell_of_row _ _ _ _ _ _ HF24.out]; rfl
          have hc34 : (w3.alloc (.cells #[.int .i64 a, .int .i64 b, .int .i64 k, .string x, .string o, .string n, .int .i64 t, .int .i64 u] 37 (0, 0))).cell? ⟨w.heap.size, 2, none⟩ = some (.int .i64 k) := by rw [cell_of_row _ _ _ _ _ _ HF27.out]; rfl
          have hc35 : w3.cell? ⟨w.heap.size, 2, none⟩ = some (.int .i64 k) := by rw [cell_of_row _ _ _ _ _ _ HF24.out]; rfl
          have hc36 : (w3.alloc (.cells #[.int .i64 a, .int .i64 b, .int .i64 k, .string x, .string o, .string n, .int .i64 t, .int .i64 u] 37 (0, 0))).cell? ⟨w.heap.size, 3, none⟩ = some (.string x) := by rw [cell_of_row _ _ _ _ _ _ HF27.out]; rfl
          have hc37 : w3.cell? ⟨w.heap.size, 3, none⟩ = some (.string x) := by rw [cell_of_row _ _ _ _ _ _ HF24.out]; rfl
          have hc38 : (w3.alloc (.cells #[.int .i64 a, .int .i64 b, .int .i64 k, .string x, .string o, .string n, .int .i64 t, .int .i64 u] 37 (0, 0))).cell? ⟨w.heap.size, 4, none⟩ = some (.string o) := by rw [cell_of_row _ _ _ _ _ _ HF27.out]; rfl
          have hc39 : w3.cell? ⟨w.heap.size, 4, none⟩ = some (.string o) := by rw [cell_of_row _ _ _ _ _ _ HF24.out]; rfl
          have hc40 : (w3.alloc (.cells #[.int .i64 a, .int .i64 b, .int .i64 k, .string x, .string o, .string n, .int .i64 t, .int .i64 u] 37 (0, 0))).cell? ⟨w.heap.size, 5, none⟩ = some (.string n) := by rw [cell_of_row _ _ _ _ _ _ HF27.out]; rfl
          have hc41 : w3.cell? ⟨w.heap.size, 5, none⟩ = some (.string n) := by rw [cell_of_row _ _ _ _ _ _ HF24.out]; rfl
          have hc42 : (w3.alloc (.cells #[.int .i64 a, .int .i64 b, .int .i64 k, .string x, .string o, .string n, .int .i64 t, .int .i64 u] 37 (0, 0))).cell? ⟨w.heap.size, 6, none⟩ = some (.int .i64 t) := by rw [cell_of_row _ _ _ _ _ _ HF27.out]; rfl
          have hc43 : w3.cell? ⟨w.heap.size, 6, none⟩ = some (.int .i64 t) := by rw [cell_of_row _ _ _ _ _ _ HF24.out]; rfl
          have hc44 : (w3.alloc (.cells #[.int .i64 a, .int .i64 b, .int .i64 k, .string x, .string o, .string n, .int .i64 t, .int .i64 u] 37 (0, 0))).cell? ⟨w.heap.size, 7, none⟩ = some (.int .i64 u) := by rw [cell_of_row _ _ _ _ _ _ HF27.out]; rfl
          have hc45 : w3.cell? ⟨w.heap.size, 7, none⟩ = some (.int .i64 u) := by rw [cell_of_row _ _ _ _ _ _ HF24.out]; rfl
          have hl46 : w.heap.size < w3.heap.size := lt_of_block HF24.out
          have hl47 : ¬ w.heap.size = w3.heap.size := by omega
          have hc48 : (w3.alloc (.cells #[.int .i64 a, .int .i64 b, .int .i64 k, .string x, .string o, .string n, .int .i64 t, .int .i64 u] 37 (0, 0))).cell? ⟨w3.heap.size, 0, none⟩ = some (.int .i64 a) := by rw [cell_of_row _ _ _ _ _ _ HF28.out]; rfl
          have hc49 : (w3.alloc (.cells #[.int .i64 a, .int .i64 b, .int .i64 k, .string x, .string o, .string n, .int .i64 t, .int .i64 u] 37 (0, 0))).cell? ⟨w3.heap.size, 1, none⟩ = some (.int .i64 b) := by rw [cell_of_row _ _ _ _ _ _ HF28.out]; rfl
          have hc50 : (w3.alloc (.cells #[.int .i64 a, .int .i64 b, .int .i64 k, .string x, .string o, .string n, .int .i64 t, .int .i64 u] 37 (0, 0))).cell? ⟨w3.heap.size, 2, none⟩ = some (.int .i64 k) := by rw [cell_of_row _ _ _ _ _ _ HF28.out]; rfl
          have hc51 : (w3.alloc (.cells #[.int .i64 a, .int .i64 b, .int .i64 k, .string x, .string o, .string n, .int .i64 t, .int .i64 u] 37 (0, 0))).cell? ⟨w3.heap.size, 3, none⟩ = some (.string x) := by rw [cell_of_row _ _ _ _ _ _ HF28.out]; rfl
          have hc52 : (w3.alloc (.cells #[.int .i64 a, .int .i64 b, .int .i64 k, .string x, .string o, .string n, .int .i64 t, .int .i64 u] 37 (0, 0))).cell? ⟨w3.heap.size, 4, none⟩ = some (.string o) := by rw [cell_of_row _ _ _ _ _ _ HF28.out]; rfl
          have hc53 : (w3.alloc (.cells #[.int .i64 a, .int .i64 b, .int .i64 k, .string x, .string o, .string n, .int .i64 t, .int .i64 u] 37 (0, 0))).cell? ⟨w3.heap.size, 5, none⟩ = some (.string n) := by rw [cell_of_row _ _ _ _ _ _ HF28.out]; rfl
          have hc54 : (w3.alloc (.cells #[.int .i64 a, .int .i64 b, .int .i64 k, .string x, .string o, .string n, .int .i64 t, .int .i64 u] 37 (0, 0))).cell? ⟨w3.heap.size, 6, none⟩ = some (.int .i64 t) := by rw [cell_of_row _ _ _ _ _ _ HF28.out]; rfl
          have hc55 : (w3.alloc (.cells #[.int .i64 a, .int .i64 b, .int .i64 k, .string x, .string o, .string n, .int .i64 t, .int .i64 u] 37 (0, 0))).cell? ⟨w3.heap.size, 7, none⟩ = some (.int .i64 u) := by rw [cell_of_row _ _ _ _ _ _ HF28.out]; rfl
          go_wp2_with fail
          refine (HT2.out (w3.alloc (.cells #[.int .i64 a, .int .i64 b, .int .i64 k, .string x, .string o, .string n, .int .i64 t, .int .i64 u] 37 (0, 0))) (HT.out.later HB29.out)).mono ?_
          rintro e w4 ⟨rfl, hb4⟩
          clear hc30 hc31 hc32 hc33 hc34 hc35 hc36 hc37 hc38 hc39 hc40 hc41 hc42 hc43 hc44 hc45 hl46 hl47 hc48 hc49 hc50 hc51 hc52 hc53 hc54 hc55
          have HF56 := Lib.hid (blk_below HF27.out hb4)
          have HF57 := Lib.hid (blk_below HF28.out hb4)
          have HB58 := Lib.hid (HB29.out.trans (hb4.mono HB29.out.size))
          clear hb4 HB29 HF27 HF24 HF28
          have hk59 : w.heap.size < w4.heap.size := lt_of_block HF56.out
          have hk60 : w3.heap.size < w4.heap.size := lt_of_block HF57.out
          have HF61 := Lib.hid (blk_alloc HF56.out (.cells #[.int .i64 a2, .int .i64 b2, .int .i64 k2, .string x2, .string o2, .string n2, .int .i64 t2, .int .i64 u2] 37 (0, 0)))
          have HF62 := Lib.hid (blk_alloc HF57.out (.cells #[.int .i64 a2, .int .i64 b2, .int .i64 k2, .string x2, .string o2, .string n2, .int .i64 t2, .int .i64 u2] 37 (0, 0)))
          have HF63 := Lib.hid (blk_new w4 (.cells #[.int .i64 a2, .int .i64 b2, .int .i64 k2, .string x2, .string o2, .string n2, .int .i64 t2, .int .i64 u2] 37 (0, 0)))
          have HB64 := Lib.hid (HB58.out.alloc HB58.out.size (.cells #[.int .i64 a2, .int .i64 b2, .int .i64 k2, .string x2, .string o2, .string n2, .int .i64 t2, .int .i64 u2] 37 (0, 0)))
          clear HB58
          have hc65 : (w4.alloc (.cells #[.int .i64 a2, .int .i64 b2, .int .i64 k2, .string x2, .string o2, .string n2, .int .i64 t2, .int .i64 u2] 37 (0, 0))).cell? ⟨w4.heap.size, 0, none⟩ = some (.int .i64 a2) := by rw [cell_of_row _ _ _ _ _ _ HF63.out]; rfl
          have hc66 : (w4.alloc (.cells #[.int .i64 a2, .int .i64 b2, .int .i64 k2, .string x2, .string o2, .string n2, .int .i64 t2, .int .i64 u2] 37 (0, 0))).cell? ⟨w4.heap.size, 1, none⟩ = some (.int .i64 b2) := by rw [cell_of_row _ _ _ _ _ _ HF63.out]; rfl
          have hc67 : (w4.alloc (.cells #[.int .i64 a2, .int .i64 b2, .int .i64 k2, .string x2, .string o2, .string n2, .int .i64 t2, .int .i64 u2] 37 (0, 0))).cell? ⟨w4.heap.size, 2, none⟩ = some (.int .i64 k2) := by rw [cell_of_row _ _ _ _ _ _ HF63.out]; rfl
          have hc68 : (w4.alloc (.cells #[.int .i64 a2, .int .i64 b2, .int .i64 k2, .string x2, .string o2, .string n2, .int .i64 t2, .int .i64 u2] 37 (0, 0))).cell? ⟨w4.heap.size, 3, none⟩ = some (.string x2) := by rw [cell_of_row _ _ _ _ _ _ HF63.out]; rfl
          have hc69 : (w4.alloc (.cells #[.int .i64 a2, .int .i64 b2, .int .i64 k2, .string x2, .string o2, .string n2, .int .i64 t2, .int .i64 u2] 37 (0, 0))).cell? ⟨w4.heap.size, 4, none⟩ = some (.string o2) := by rw [cell_of_row _ _ _ _ _ _ HF63.out]; rfl
          have hc70 : (w4.alloc (.cells #[.int .i64 a2, .int .i64 b2, .int .i64 k2, .string x2, .string o2, .string n2, .int .i64 t2, .int .i64 u2] 37 (0, 0))).cell? ⟨w4.heap.size, 5, none⟩ = some (.string n2) := by rw [cell_of_row _ _ _ _ _ _ HF63.out]; rfl
          have hc71 : (w4.alloc (.cells #[.int .i64 a2, .int .i64 b2, .int .i64 k2, .string x2, .string o2, .string n2, .int .i64 t2, .int .i64 u2] 37 (0, 0))).cell? ⟨w4.heap.size, 6, none⟩ = some (.int .i64 t2) := by rw [cell_of_row _ _ _ _ _ _ HF63.out]; rfl
          have hc72 : (w4.alloc (.cells #[.int .i64 a2, .int .i64 b2, .int .i64 k2, .string x2, .string o2, .string n2, .int .i64 t2, .int .i64 u2] 37 (0, 0))).cell? ⟨w4.heap.size, 7, none⟩ = some (.int .i64 u2) := by rw [cell_of_row _ _ _ _ _ _ HF63.out]; rfl
          go_wp2_with fail
          refine (HP2.out (w4.alloc (.cells #[.int .i64 a2, .int .i64 b2, .int .i64 k2, .string x2, .string o2, .string n2, .int .i64 t2, .int .i64 u2] 37 (0, 0))) (HT.out.later HB64.out)).mono ?_
          rintro e w5 ⟨rfl, hb5⟩
          clear hc65 hc66 hc67 hc68 hc69 hc70 hc71 hc72
          have HF73 := Lib.hid (blk_below HF61.out hb5)
          have HF74 := Lib.hid (blk_below HF62.out hb5)
          have HF75 := Lib.hid (blk_below HF63.out hb5)
          have HB76 := Lib.hid (HB64.out.trans (hb5.mono HB64.out.size))
          clear hb5 HB64 HF61 HF56 HF62 HF57 HF63
          go_wp2_with fail
          refine (HNO.out w5).mono ?_
          rintro e w6 ⟨rfl, hb6⟩
          have HF77 := Lib.hid (blk_below HF73.out hb6)
          have HF78 := Lib.hid (blk_below HF74.out hb6)
          have HF79 := Lib.hid (blk_below HF75.out hb6)
          have HB80 := Lib.hid (HB76.out.trans (hb6.mono HB76.out.size))
          clear hb6 HB76 HF73 HF74 HF75
          go_wp2_with fail
          refine (HT3.out w6 (HT.out.later HB80.out)).mono ?_
          rintro e w7 ⟨rfl, hb7⟩
          have HF81 := Lib.hid (blk_below HF77.out hb7)
          have HF82 := Lib.hid (blk_below HF78.out hb7)
          have HF83 := Lib.hid (blk_below HF79.out hb7)
          have HB84 := Lib.hid (HB80.out.trans (hb7.mono HB80.out.size))
          clear hb7 HB80 HF77 HF78 HF79
          have hk85 : w.heap.size < w7.heap.size := lt_of_block HF81.out
          have hk86 : w3.heap.size < w7.heap.size := lt_of_block HF82.out
          have hk87 : w4.heap.size < w7.heap.size := lt_of_block HF83.out
          have HF88 := Lib.hid (blk_alloc HF81.out (.cells #[.int .i64 0, .int .i64 0, .int .i64 0, .string ⟨#[]⟩, .string ⟨#[]⟩, .string ⟨#[]⟩, .int .i64 0, .int .i64 0] 37 (0, 0)))
          have HF89 := Lib.hid (blk_alloc HF82.out (.cells #[.int .i64 0, .int .i64 0, .int .i64 0, .string ⟨#[]⟩, .string ⟨#[]⟩, .string ⟨#[]⟩, .int .i64 0, .int .i64 0] 37 (0, 0)))
          have HF90 := Lib.hid (blk_alloc HF83.out (.cells #[.int .i64 0, .int .i64 0, .int .i64 0, .string ⟨#[]⟩, .string ⟨#[]⟩, .string ⟨#[]⟩, .int .i64 0, .int .i64 0] 37 (0, 0)))
          have HF91 := Lib.hid (blk_new w7 (.cells #[.int .i64 0, .int .i64 0, .int .i64 0, .string ⟨#[]⟩, .string ⟨#[]⟩, .string ⟨#[]⟩, .int .i64 0, .int .i64 0] 37 (0, 0)))
          have HB92 := Lib.hid (HB84.out.alloc HB84.out.size (.cells #[.int .i64 0, .int .i64 0, .int .i64 0, .string ⟨#[]⟩, .string ⟨#[]⟩, .string ⟨#[]⟩, .int .i64 0, .int .i64 0] 37 (0, 0)))
          clear HB84
          go_wp2_with fail
          refine (awake10 (w7.alloc (.cells #[.int .i64 0, .int .i64 0, .int .i64 0, .string ⟨#[]⟩, .string ⟨#[]⟩, .string ⟨#[]⟩, .int .i64 0, .int .i64 0] 37 (0, 0))) (HT.out.later HB92.out)).mono ?_
          rintro e w8 ⟨rfl, hb8⟩
          have HF93 := Lib.hid (blk_below HF88.out hb8)
          have HF94 := Lib.hid (blk_below HF89.out hb8)
          have HF95 := Lib.hid (blk_below HF90.out hb8)
          have HF96 := Lib.hid (blk_below HF91.out hb8)
          have HB97 := Lib.hid (HB92.out.trans (hb8.mono HB92.out.size))
          clear hb8 HB92 HF88 HF81 HF89 HF82 HF90 HF83 HF91
          go_wp2_with fail
          go_ret
          exact ⟨rfl, HB97.out⟩
        · have HT2 := Lib.hid (fun (W : World) (g : Tab W) => etake_no S W g h2 hr2)
          unfold recZ at HT2
          clear h2 hr2
          have HB1 := Lib.hid (Below.refl w.heap.size w)
          go_enter Tryd.func7, Tryd.ntmps7
          have HF2 := Lib.hid (blk_new w (.cells #[.int .i64 a, .int .i64 b, .int .i64 k, .string x, .string o, .string n, .int .i64 t, .int .i64 u] 37 (0, 0)))
          have HB3 := Lib.hid (HB1.out.alloc HB1.out.size (.cells #[.int .i64 a, .int .i64 b, .int .i64 k, .string x, .string o, .string n, .int .i64 t, .int .i64 u] 37 (0, 0)))
          clear HB1
          have hc4 : (w.alloc (.cells #[.int .i64 a, .int .i64 b, .int .i64 k, .string x, .string o, .string n, .int .i64 t, .int .i64 u] 37 (0, 0))).cell? ⟨w.heap.size, 0, none⟩ = some (.int .i64 a) := by rw [cell_of_row _ _ _ _ _ _ HF2.out]; rfl
          have hc5 : (w.alloc (.cells #[.int .i64 a, .int .i64 b, .int .i64 k, .string x, .string o, .string n, .int .i64 t, .int .i64 u] 37 (0, 0))).cell? ⟨w.heap.size, 1, none⟩ = some (.int .i64 b) := by rw [cell_of_row _ _ _ _ _ _ HF2.out]; rfl
          have hc6 : (w.alloc (.cells #[.int .i64 a, .int .i64 b, .int .i64 k, .string x, .string o, .string n, .int .i64 t, .int .i64 u] 37 (0, 0))).cell? ⟨w.heap.size, 2, none⟩ = some (.int .i64 k) := by rw [cell_of_row _ _ _ _ _ _ HF2.out]; rfl
          have hc7 : (w.alloc (.cells #[.int .i64 a, .int .i64 b, .int .i64 k, .string x, .string o, .string n, .int .i64 t, .int .i64 u] 37 (0, 0))).cell? ⟨w.heap.size, 3, none⟩ = some (.string x) := by rw [cell_of_row _ _ _ _ _ _ HF2.out]; rfl
          have hc8 : (w.alloc (.cells #[.int .i64 a, .int .i64 b, .int .i64 k, .string x, .string o, .string n, .int .i64 t, .int .i64 u] 37 (0, 0))).cell? ⟨w.heap.size, 4, none⟩ = some (.string o) := by rw [cell_of_row _ _ _ _ _ _ HF2.out]; rfl
          have hc9 : (w.alloc (.cells #[.int .i64 a, .int .i64 b, .int .i64 k, .string x, .string o, .string n, .int .i64 t, .int .i64 u] 37 (0, 0))).cell? ⟨w.heap.size, 5, none⟩ = some (.string n) := by rw [cell_of_row _ _ _ _ _ _ HF2.out]; rfl
          have hc10 : (w.alloc (.cells #[.int .i64 a, .int .i64 b, .int .i64 k, .string x, .string o, .string n, .int .i64 t, .int .i64 u] 37 (0, 0))).cell? ⟨w.heap.size, 6, none⟩ = some (.int .i64 t) := by rw [cell_of_row _ _ _ _ _ _ HF2.out]; rfl
          have hc11 : (w.alloc (.cells #[.int .i64 a, .int .i64 b, .int .i64 k, .string x, .string o, .string n, .int .i64 t, .int .i64 u] 37 (0, 0))).cell? ⟨w.heap.size, 7, none⟩ = some (.int .i64 u) := by rw [cell_of_row _ _ _ _ _ _ HF2.out]; rfl
          go_wp2_with fail
          refine (HF.out (w.alloc (.cells #[.int .i64 a, .int .i64 b, .int .i64 k, .string x, .string o, .string n, .int .i64 t, .int .i64 u] 37 (0, 0)))).mono ?_
          rintro e w1 ⟨rfl, hb1⟩
          clear hc4 hc5 hc6 hc7 hc8 hc9 hc10 hc11
          have HF12 := Lib.hid (blk_below HF2.out hb1)
          have HB13 := Lib.hid (HB3.out.trans (hb1.mono HB3.out.size))
          clear hb1 HB3 HF2
          have hc14 : w1.cell? ⟨w.heap.size, 0, none⟩ = some (.int .i64 a) := by rw [cell_of_row _ _ _ _ _ _ HF12.out]; rfl
          have hc15 : w1.cell? ⟨w.heap.size, 1, none⟩ = some (.int .i64 b) := by rw [cell_of_row _ _ _ _ _ _ HF12.out]; rfl
          have hc16 : w1.cell? ⟨w.heap.size, 2, none⟩ = some (.int .i64 k) := by rw [cell_of_row _ _ _ _ _ _ HF12.out]; rfl
          have hc17 : w1.cell? ⟨w.heap.size, 3, none⟩ = some (.string x) := by rw [cell_of_row _ _ _ _ _ _ HF12.out]; rfl
          have hc18 : w1.cell? ⟨w.heap.size, 4, none⟩ = some (.string o) := by rw [cell_of_row _ _ _ _ _ _ HF12.out]; rfl
          have hc19 : w1.cell? ⟨w.heap.size, 5, none⟩ = some (.string n) := by rw [cell_of_row _ _ _ _ _ _ HF12.out]; rfl
          have hc20 : w1.cell? ⟨w.heap.size, 6, none⟩ = some (.int .i64 t) := by rw [cell_of_row _ _ _ _ _ _ HF12.out]; rfl
          have hc21 : w1.cell? ⟨w.heap.size, 7, none⟩ = some (.int .i64 u) := by rw [cell_of_row _ _ _ _ _ _ HF12.out]; rfl
          go_wp2_with fail
          refine (HPU.out w1 (HT.out.later HB13.out)).mono ?_
          rintro e w2 ⟨rfl, hb2⟩
          clear hc14 hc15 hc16 hc17 hc18 hc19 hc20 hc21
          have HF22 := Lib.hid (blk_below HF12.out hb2)
          have HB23 := Lib.hid (HB13.out.trans (hb2.mono HB13.out.size))
          clear hb2 HB13 HF12
          go_wp2_with fail
          refine (HTK.out w2 (HT.out.later HB23.out)).mono ?_
          rintro e w3 ⟨rfl, hb3⟩
          have HF24 := Lib.hid (blk_below HF22.out hb3)
          have HB25 := Lib.hid (HB23.out.trans (hb3.mono HB23.out.size))
          clear hb3 HB23 HF22
          have hk26 : w.heap.size < w3.heap.size := lt_of_block HF24.out
          have HF27 := Lib.hid (blk_alloc HF24.out (.cells #[.int .i64 a, .int .i64 b, .int .i64 k, .string x, .string o, .string n, .int .i64 t, .int .i64 u] 37 (0, 0)))
          have HF28 := Lib.hid (blk_new w3 (.cells #[.int .i64 a, .int .i64 b, .int .i64 k, .string x, .string o, .string n, .int .i64 t, .int .i64 u] 37 (0, 0)))
          have HB29 := Lib.hid (HB25.out.alloc HB25.out.size (.cells #[.int .i64 a, .int .i64 b, .int .i64 k, .string x, .string o, .string n, .int .i64 t, .int .i64 u] 37 (0, 0)))
          clear HB25
          have hc30 : (w3.alloc (.cells #[.int .i64 a, .int .i64 b, .int .i64 k, .string x, .string o, .string n, .int .i64 t, .int .i64 u] 37 (0, 0))).cell? ⟨w.heap.size, 0, none⟩ = some (.int .i64 a) := by rw [cell_of_row _ _ _ _ _ _ HF27.out]; rfl
          have hc31 : w3.cell? ⟨w.heap.size, 0, none⟩ = some (.int .i64 a) := by rw [cell_of_row _ _ _ _ _ _ HF24.out]; rfl
          have hc32 : (w3.alloc (.cells #[.int .i64 a, .int .i64 b, .int .i64 k, .string x, .string o, .string n, .int .i64 t, .int .i64 u] 37 (0, 0))).cell? ⟨w.heap.size, 1, none⟩ = some (.int .i64 b) := by rw [cell_of_row _ _ _ _ _ _ HF27.out]; rfl
          have hc33 : w3.cell? ⟨w.heap.size, 1, none⟩ = some (.int .i64 b) := by rw [cell_of_row _ _ _ _ _ _ HF24.out]; rfl
          have hc34 : (w3.alloc (.cells #[.int .i64 a, .int .i64 b, .int .i64 k, .string x, .string o, .string n, .int .i64 t, .int .i64 u] 37 (0, 0))).cell? ⟨w.heap.size, 2, none⟩ = some (.int .i64 k) := by rw [cell_of_row _ _ _ _ _ _ HF27.out]; rfl
          have hc35 : w3.cell? ⟨w.heap.size, 2, none⟩ = some (.int .i64 k) := by rw [cell_of_row _ _ _ _ _ _ HF24.out]; rfl
          have hc36 : (w3.alloc (.cells #[.int .i64 a, .int .i64 b, .int .i64 k, .string x, .string o, .string n, .int .i64 t, .int .i64 u] 37 (0, 0))).cell? ⟨w.heap.size, 3, none⟩ = some (.string x) := by rw [cell_of_row _ _ _ _ _ _ HF27.out]; rfl
          have hc37 : w3.cell? ⟨w.heap.size, 3, none⟩ = some (.string x) := by rw [cell_of_row _ _ _ _ _ _ HF24.out]; rfl
          have hc38 : (w3.alloc (.cells #[.int .i64 a, .int .i64 b, .int .i64 k, .string x, .string o, .string n, .int .i64 t, .int .i64 u] 37 (0, 0))).cell? ⟨w.heap.size, 4, none⟩ = some (.string o) := by rw [cell_of_row _ _ _ _ _ _ HF27.out]; rfl
          have hc39 : w3.cell? ⟨w.heap.size, 4, none⟩ = some (.string o) := by rw [cell_of_row _ _ _ _ _ _ HF24.out]; rfl
          have hc40 : (w3.alloc (.cells #[.int .i64 a, .int .i64 b, .int .i64 k, .string x, .string o, .string n, .int .i64 t, .int .i64 u] 37 (0, 0))).cell? ⟨w.heap.size, 5, none⟩ = some (.string n) := by rw [cell_of_row _ _ _ _ _ _ HF27.out]; rfl
          have hc41 : w3.cell? ⟨w.heap.size, 5, none⟩ = some (.string n) := by rw [cell_of_row _ _ _ _ _ _ HF24.out]; rfl
          have hc42 : (w3.alloc (.cells #[.int .i64 a, .int .i64 b, .int .i64 k, .string x, .string o, .string n, .int .i64 t, .int .i64 u] 37 (0, 0))).cell? ⟨w.heap.size, 6, none⟩ = some (.int .i64 t) := by rw [cell_of_row _ _ _ _ _ _ HF27.out]; rfl
          have hc43 : w3.cell? ⟨w.heap.size, 6, none⟩ = some (.int .i64 t) := by rw [cell_of_row _ _ _ _ _ _ HF24.out]; rfl
          have hc44 : (w3.alloc (.cells #[.int .i64 a, .int .i64 b, .int .i64 k, .string x, .string o, .string n, .int .i64 t, .int .i64 u] 37 (0, 0))).cell? ⟨w.heap.size, 7, none⟩ = some (.int .i64 u) := by rw [cell_of_row _ _ _ _ _ _ HF27.out]; rfl
          have hc45 : w3.cell? ⟨w.heap.size, 7, none⟩ = some (.int .i64 u) := by rw [cell_of_row _ _ _ _ _ _ HF24.out]; rfl
          have hl46 : w.heap.size < w3.heap.size := lt_of_block HF24.out
          have hl47 : ¬ w.heap.size = w3.heap.size := by omega
          have hc48 : (w3.alloc (.cells #[.int .i64 a, .int .i64 b, .int .i64 k, .string x, .string o, .string n, .int .i64 t, .int .i64 u] 37 (0, 0))).cell? ⟨w3.heap.size, 0, none⟩ = some (.int .i64 a) := by rw [cell_of_row _ _ _ _ _ _ HF28.out]; rfl
          have hc49 : (w3.alloc (.cells #[.int .i64 a, .int .i64 b, .int .i64 k, .string x, .string o, .string n, .int .i64 t, .int .i64 u] 37 (0, 0))).cell? ⟨w3.heap.size, 1, none⟩ = some (.int .i64 b) := by rw [cell_of_row _ _ _ _ _ _ HF28.out]; rfl
          have hc50 : (w3.alloc (.cells #[.int .i64 a, .int .i64 b, .int .i64 k, .string x, .string o, .string n, .int .i64 t, .int .i64 u] 37 (0, 0))).cell? ⟨w3.heap.size, 2, none⟩ = some (.int .i64 k) := by rw [cell_of_row _ _ _ _ _ _ HF28.out]; rfl
          have hc51 : (w3.alloc (.cells #[.int .i64 a, .int .i64 b, .int .i64 k, .string x, .string o, .string n, .int .i64 t, .int .i64 u] 37 (0, 0))).cell? ⟨w3.heap.size, 3, none⟩ = some (.string x) := by rw [cell_of_row _ _ _ _ _ _ HF28.out]; rfl
          have hc52 : (w3.alloc (.cells #[.int .i64 a, .int .i64 b, .int .i64 k, .string x, .string o, .string n, .int .i64 t, .int .i64 u] 37 (0, 0))).cell? ⟨w3.heap.size, 4, none⟩ = some (.string o) := by rw [cell_of_row _ _ _ _ _ _ HF28.out]; rfl
          have hc53 : (w3.alloc (.cells #[.int .i64 a, .int .i64 b, .int .i64 k, .string x, .string o, .string n, .int .i64 t, .int .i64 u] 37 (0, 0))).cell? ⟨w3.heap.size, 5, none⟩ = some (.string n) := by rw [cell_of_row _ _ _ _ _ _ HF28.out]; rfl
          have hc54 : (w3.alloc (.cells #[.int .i64 a, .int .i64 b, .int .i64 k, .string x, .string o, .string n, .int .i64 t, .int .i64 u] 37 (0, 0))).cell? ⟨w3.heap.size, 6, none⟩ = some (.int .i64 t) := by rw [cell_of_row _ _ _ _ _ _ HF28.out]; rfl
          have hc55 : (w3.alloc (.cells #[.int .i64 a, .int .i64 b, .int .i64 k, .string x, .string o, .string n, .int .i64 t, .int .i64 u] 37 (0, 0))).cell? ⟨w3.heap.size, 7, none⟩ = some (.int .i64 u) := by rw [cell_of_row _ _ _ _ _ _ HF28.out]; rfl
          go_wp2_with fail
          refine (HT2.out (w3.alloc (.cells #[.int .i64 a, .int .i64 b, .int .i64 k, .string x, .string o, .string n, .int .i64 t, .int .i64 u] 37 (0, 0))) (HT.out.later HB29.out)).mono ?_
          rintro e w4 ⟨rfl, hb4⟩
          clear hc30 hc31 hc32 hc33 hc34 hc35 hc36 hc37 hc38 hc39 hc40 hc41 hc42 hc43 hc44 hc45 hl46 hl47 hc48 hc49 hc50 hc51 hc52 hc53 hc54 hc55
          have HF56 := Lib.hid (blk_below HF27.out hb4)
          have HF57 := Lib.hid (blk_below HF28.out hb4)
          have HB58 := Lib.hid (HB29.out.trans (hb4.mono HB29.out.size))
          clear hb4 HB29 HF27 HF24 HF28
          have hk59 : w.heap.size < w4.heap.size := lt_of_block HF56.out
          have hk60 : w3.heap.size < w4.heap.size := lt_of_block HF57.out
          have HF61 := Lib.hid (blk_alloc HF56.out (.cells #[.int .i64 0, .int .i64 0, .int .i64 0, .string ⟨#[]⟩, .string ⟨#[]⟩, .string ⟨#[]⟩, .int .i64 0, .int .i64 0] 37 (0, 0)))
          have HF62 := Lib.hid (blk_alloc HF57.out (.cells #[.int .i64 0, .int .i64 0, .int .i64 0, .string ⟨#[]⟩, .string ⟨#[]⟩, .string ⟨#[]⟩, .int .i64 0, .int .i64 0] 37 (0, 0)))
          have HF63 := Lib.hid (blk_new w4 (.cells #[.int .i64 0, .int .i64 0, .int .i64 0, .string ⟨#[]⟩, .string ⟨#[]⟩, .string ⟨#[]⟩, .int .i64 0, .int .i64 0] 37 (0, 0)))
          have HB64 := Lib.hid (HB58.out.alloc HB58.out.size (.cells #[.int .i64 0, .int .i64 0, .int .i64 0, .string ⟨#[]⟩, .string ⟨#[]⟩, .string ⟨#[]⟩, .int .i64 0, .int .i64 0] 37 (0, 0)))
          clear HB58
          have hc65 : (w4.alloc (.cells #[.int .i64 0, .int .i64 0, .int .i64 0, .string ⟨#[]⟩, .string ⟨#[]⟩, .string ⟨#[]⟩, .int .i64 0, .int .i64 0] 37 (0, 0))).cell? ⟨w4.heap.size, 0, none⟩ = some (.int .i64 0) := by rw [cell_of_row _ _ _ _ _ _ HF63.out]; rfl
          have hc66 : (w4.alloc (.cells #[.int .i64 0, .int .i64 0, .int .i64 0, .string ⟨#[]⟩, .string ⟨#[]⟩, .string ⟨#[]⟩, .int .i64 0, .int .i64 0] 37 (0, 0))).cell? ⟨w4.heap.size, 1, none⟩ = some (.int .i64 0) := by rw [cell_of_row _ _ _ _ _ _ HF63.out]; rfl
          have hc67 : (w4.alloc (.cells #[.int .i64 0, .int .i64 0, .int .i64 0, .string ⟨#[]⟩, .string ⟨#[]⟩, .string ⟨#[]⟩, .int .i64 0, .int .i64 0] 37 (0, 0))).cell? ⟨w4.heap.size, 2, none⟩ = some (.int .i64 0) := by rw [cell_of_row _ _ _ _ _ _ HF63.out]; rfl
          have hc68 : (w4.alloc (.cells #[.int .i64 0, .int .i64 0, .int .i64 0, .string ⟨#[]⟩, .string ⟨#[]⟩, .string ⟨#[]⟩, .int .i64 0, .int .i64 0] 37 (0, 0))).cell? ⟨w4.heap.size, 3, none⟩ = some (.string ⟨#[]⟩) := by rw [cell_of_row _ _ _ _ _ _ HF63.out]; rfl
          have hc69 : (w4.alloc (.cells #[.int .i64 0, .int .i64 0, .int .i64 0, .string ⟨#[]⟩, .string ⟨#[]⟩, .string ⟨#[]⟩, .int .i64 0, .int .i64 0] 37 (0, 0))).cell? ⟨w4.heap.size, 4, none⟩ = some (.string ⟨#[]⟩) := by rw [cell_of_row _ _ _ _ _ _ HF63.out]; rfl
          have hc70 : (w4.alloc (.cells #[.int .i64 0, .int .i64 0, .int .i64 0, .string ⟨#[]⟩, .string ⟨#[]⟩, .string ⟨#[]⟩, .int .i64 0, .int .i64 0] 37 (0, 0))).cell? ⟨w4.heap.size, 5, none⟩ = some (.string ⟨#[]⟩) := by rw [cell_of_row _ _ _ _ _ _ HF63.out]; rfl
          have hc71 : (w4.alloc (.cells #[.int .i64 0, .int .i64 0, .int .i64 0, .string ⟨#[]⟩, .string ⟨#[]⟩, .string ⟨#[]⟩, .int .i64 0, .int .i64 0] 37 (0, 0))).cell? ⟨w4.heap.size, 6, none⟩ = some (.int .i64 0) := by rw [cell_of_row _ _ _ _ _ _ HF63.out]; rfl
          have hc72 : (w4.alloc (.cells #[.int .i64 0, .int .i64 0, .int .i64 0, .string ⟨#[]⟩, .string ⟨#[]⟩, .string ⟨#[]⟩, .int .i64 0, .int .i64 0] 37 (0, 0))).cell? ⟨w4.heap.size, 7, none⟩ = some (.int .i64 0) := by rw [cell_of_row _ _ _ _ _ _ HF63.out]; rfl
          go_wp2_with fail
          refine (HNO.out (w4.alloc (.cells #[.int .i64 0, .int .i64 0, .int .i64 0, .string ⟨#[]⟩, .string ⟨#[]⟩, .string ⟨#[]⟩, .int .i64 0, .int .i64 0] 37 (0, 0)))).mono ?_
          rintro e w5 ⟨rfl, hb5⟩
          clear hc65 hc66 hc67 hc68 hc69 hc70 hc71 hc72
          have HF73 := Lib.hid (blk_below HF61.out hb5)
          have HF74 := Lib.hid (blk_below HF62.out hb5)
          have HF75 := Lib.hid (blk_below HF63.out hb5)
          have HB76 := Lib.hid (HB64.out.trans (hb5.mono HB64.out.size))
          clear hb5 HB64 HF61 HF56 HF62 HF57 HF63
          go_wp2_with fail
          refine (HT3.out w5 (HT.out.later HB76.out)).mono ?_
          rintro e w6 ⟨rfl, hb6⟩
          have HF77 := Lib.hid (blk_below HF73.out hb6)
          have HF78 := Lib.hid (blk_below HF74.out hb6)
          have HF79 := Lib.hid (blk_below HF75.out hb6)
          have HB80 := Lib.hid (HB76.out.trans (hb6.mono HB76.out.size))
          clear hb6 HB76 HF73 HF74 HF75
          have hk81 : w.heap.size < w6.heap.size := lt_of_block HF77.out
          have hk82 : w3.heap.size < w6.heap.size := lt_of_block HF78.out
          have hk83 : w4.heap.size < w6.heap.size := lt_of_block HF79.out
          have HF84 := Lib.hid (blk_alloc HF77.out (.cells #[.int .i64 0, .int .i64 0, .int .i64 0, .string ⟨#[]⟩, .string ⟨#[]⟩, .string ⟨#[]⟩, .int .i64 0, .int .i64 0] 37 (0, 0)))
          have HF85 := Lib.hid (blk_alloc HF78.out (.cells #[.int .i64 0, .int .i64 0, .int .i64 0, .string ⟨#[]⟩, .string ⟨#[]⟩, .string ⟨#[]⟩, .int .i64 0, .int .i64 0] 37 (0, 0)))
          have HF86 := Lib.hid (blk_alloc HF79.out (.cells #[.int .i64 0, .int .i64 0, .int .i64 0, .string ⟨#[]⟩, .string ⟨#[]⟩, .string ⟨#[]⟩, .int .i64 0, .int .i64 0] 37 (0, 0)))
          have HF87 := Lib.hid (blk_new w6 (.cells #[.int .i64 0, .int .i64 0, .int .i64 0, .string ⟨#[]⟩, .string ⟨#[]⟩, .string ⟨#[]⟩, .int .i64 0, .int .i64 0] 37 (0, 0)))
          have HB88 := Lib.hid (HB80.out.alloc HB80.out.size (.cells #[.int .i64 0, .int .i64 0, .int .i64 0, .string ⟨#[]⟩, .string ⟨#[]⟩, .string ⟨#[]⟩, .int .i64 0, .int .i64 0] 37 (0, 0)))
          clear HB80
          go_wp2_with fail
          refine (awake10 (w6.alloc (.cells #[.int .i64 0, .int .i64 0, .int .i64 0, .string ⟨#[]⟩, .string ⟨#[]⟩, .string ⟨#[]⟩, .int .i64 0, .int .i64 0] 37 (0, 0))) (HT.out.later HB88.out)).mono ?_
          rintro e w7 ⟨rfl, hb7⟩
          have HF89 := Lib.hid (blk_below HF84.out hb7)
          have HF90 := Lib.hid (blk_below HF85.out hb7)
          have HF91 := Lib.hid (blk_below HF86.out hb7)
          have HF92 := Lib.hid (blk_below HF87.out hb7)
          have HB93 := Lib.hid (HB88.out.trans (hb7.mono HB88.out.size))
          clear hb7 HB88 HF84 HF77 HF85 HF78 HF86 HF79 HF87
          go_wp2_with fail
          go_ret
          exact ⟨rfl, HB93.out⟩
      | false =>
        have HPU := Lib.hid (fun (W : World) => erput_no a b k x o n t u W hx hr)
        clear hr h1 hx
        by_cases hr2 : IsRec S
        · obtain ⟨a2, b2, k2, x2, o2, n2, t2, u2, h, rfl⟩ := hr2
          have HT2 := Lib.hid (fun (W : World) (g : Tab W) => etake_yes a2 b2 k2 x2 o2 n2 t2 u2 W g h)
          have HP2 := Lib.hid (fun (W : World) (g : Tab W) => erput_yes a2 b2 k2 x2 o2 n2 t2 u2 W g h)
          unfold recV at HT2
          generalize recS a2 b2 k2 x2 o2 n2 t2 u2 = S at *
          have hss : (S.toList == S.toList) = true := by simp
          have hss2 : (S.toList != S.toList) = false := by simp
          clear h h2
          have HB1 := Lib.hid (Below.refl w.heap.size w)
          go_enter Tryd.func7, Tryd.ntmps7
          have HF2 := Lib.hid (blk_new w (.cells #[.int .i64 a, .int .i64 b, .int .i64 k, .string x, .string o, .string n, .int .i64 t, .int .i64 u] 37 (0, 0)))
          have HB3 := Lib.hid (HB1.out.alloc HB1.out.size (.cells #[.int .i64 a, .int .i64 b, .int .i64 k, .string x, .string o, .string n, .int .i64 t, .int .i64 u] 37 (0, 0)))
          clear HB1
          have hc4 : (w.alloc (.cells #[.int .i64 a, .int .i64 b, .int .i64 k, .string x, .string o, .string n, .int .i64 t, .int .i64 u] 37 (0, 0))).cell? ⟨w.heap.size, 0, none⟩ = some (.int .i64 a) := by rw [cell_of_row _ _ _ _ _ _ HF2.out]; rfl
          have hc5 : (w.alloc (.cells #[.int .i64 a, .int .i64 b, .int .i64 k, .string x, .string o, .string n, .int .i64 t, .int .i64 u] 37 (0, 0))).cell? ⟨w.heap.size, 1, none⟩ = some (.int .i64 b) := by rw [cell_of_row _ _ _ _ _ _ HF2.out]; rfl
          have hc6 : (w.alloc (.cells #[.int .i64 a, .int .i64 b, .int .i64 k, .string x, .string o, .string n, .int .i64 t, .int .i64 u] 37 (0, 0))).cell? ⟨w.heap.size, 2, none⟩ = some (.int .i64 k) := by rw [cell_of_row _ _ _ _ _ _ HF2.out]; rfl
          have hc7 : (w.alloc (.cells #[.int .i64 a, .int .i64 b, .int .i64 k, .string x, .string o, .string n, .int .i64 t, .int .i64 u] 37 (0, 0))).cell? ⟨w.heap.size, 3, none⟩ = some (.string x) := by rw [cell_of_row _ _ _ _ _ _ HF2.out]; rfl
          have hc8 : (w.alloc (.cells #[.int .i64 a, .int .i64 b, .int .i64 k, .string x, .string o, .string n, .int .i64 t, .int .i64 u] 37 (0, 0))).cell? ⟨w.heap.size, 4, none⟩ = some (.string o) := by rw [cell_of_row _ _ _ _ _ _ HF2.out]; rfl
          have hc9 : (w.alloc (.cells #[.int .i64 a, .int .i64 b, .int .i64 k, .string x, .string o, .string n, .int .i64 t, .int .i64 u] 37 (0, 0))).cell? ⟨w.heap.size, 5, none⟩ = some (.string n) := by rw [cell_of_row _ _ _ _ _ _ HF2.out]; rfl
          have hc10 : (w.alloc (.cells #[.int .i64 a, .int .i64 b, .int .i64 k, .string x, .string o, .string n, .int .i64 t, .int .i64 u] 37 (0, 0))).cell? ⟨w.heap.size, 6, none⟩ = some (.int .i64 t) := by rw [cell_of_row _ _ _ _ _ _ HF2.out]; rfl
          have hc11 : (w.alloc (.cells #[.int .i64 a, .int .i64 b, .int .i64 k, .string x, .string o, .string n, .int .i64 t, .int .i64 u] 37 (0, 0))).cell? ⟨w.heap.size, 7, none⟩ = some (.int .i64 u) := by rw [cell_of_row _ _ _ _ _ _ HF2.out]; rfl
          go_wp2_with fail
          refine (HF.out (w.alloc (.cells #[.int .i64 a, .int .i64 b, .int .i64 k, .string x, .string o, .string n, .int .i64 t, .int .i64 u] 37 (0, 0)))).mono ?_
          rintro e w1 ⟨rfl, hb1⟩
          clear hc4 hc5 hc6 hc7 hc8 hc9 hc10 hc11
          have HF12 := Lib.hid (blk_below HF2.out hb1)
          have HB13 := Lib.hid (HB3.out.trans (hb1.mono HB3.out.size))
          clear hb1 HB3 HF2
          have hc14 : w1.cell? ⟨w.heap.size, 0, none⟩ = some (.int .i64 a) := by rw [cell_of_row _ _ _ _ _ _ HF12.out]; rfl
          have hc15 : w1.cell? ⟨w.heap.size, 1, none⟩ = some (.int .i64 b) := by rw [cell_of_row _ _ _ _ _ _ HF12.out]; rfl
          have hc16 : w1.cell? ⟨w.heap.size, 2, none⟩ = some (.int .i64 k) := by rw [cell_of_row _ _ _ _ _ _ HF12.out]; rfl
          have hc17 : w1.cell? ⟨w.heap.size, 3, none⟩ = some (.string x) := by rw [cell_of_row _ _ _ _ _ _ HF12.out]; rfl
          have hc18 : w1.cell? ⟨w.heap.size, 4, none⟩ = some (.string o) := by rw [cell_of_row _ _ _ _ _ _ HF12.out]; rfl
          have hc19 : w1.cell? ⟨w.heap.size, 5, none⟩ = some (.string n) := by rw [cell_of_row _ _ _ _ _ _ HF12.out]; rfl
          have hc20 : w1.cell? ⟨w.heap.size, 6, none⟩ = some (.int .i64 t) := by rw [cell_of_row _ _ _ _ _ _ HF12.out]; rfl
          have hc21 : w1.cell? ⟨w.heap.size, 7, none⟩ = some (.int .i64 u) := by rw [cell_of_row _ _ _ _ _ _ HF12.out]; rfl
          go_wp2_with fail
          refine (HPU.out w1).mono ?_
          rintro e w2 ⟨rfl, hb2⟩
          clear hc14 hc15 hc16 hc17 hc18 hc19 hc20 hc21
          have HF22 := Lib.hid (blk_below HF12.out hb2)
          have HB23 := Lib.hid (HB13.out.trans (hb2.mono HB13.out.size))
          clear hb2 HB13 HF12
          go_wp2_with fail
          refine (HT2.out w2 (HT.out.later HB23.out)).mono ?_
          rintro e w3 ⟨rfl, hb3⟩
          have HF24 := Lib.hid (blk_below HF22.out hb3)
          have HB25 := Lib.hid (HB23.out.trans (hb3.mono HB23.out.size))
          clear hb3 HB23 HF22
          have hk26 : w.heap.size < w3.heap.size := lt_of_block HF24.out
          have HF27 := Lib.hid (blk_alloc HF24.out (.cells #[.int .i64 a2, .int .i64 b2, .int .i64 k2, .string x2, .string o2, .string n2, .int .i64 t2, .int .i64 u2] 37 (0, 0)))
          have HF28 := Lib.hid (blk_new w3 (.cells #[.int .i64 a2, .int .i64 b2, .int .i64 k2, .string x2, .string o2, .string n2, .int .i64 t2, .int .i64 u2] 37 (0, 0)))
          have HB29 := Lib.hid (HB25.out.alloc HB25.out.size (.cells #[.int .i64 a2, .int .i64 b2, .int .i64 k2, .string x2, .string o2, .string n2, .int .i64 t2, .int .i64 u2] 37 (0, 0)))
          clear HB25
          have hc30 : (w3.alloc (.cells #[.int .i64 a2, .int .i64 b2, .int .i64 k2, .string x2, .string o2, .string n2, .int .i64 t2, .int .i64 u2] 37 (0, 0))).cell? ⟨w3.heap.size, 0, none⟩ = some (.int .i64 a2) := by rw [cell_of_row _ _ _ _ _ _ HF28.out]; rfl
          have hc31 : (w3.alloc (.cells #[.int .i64 a2, .int .i64 b2, .int .i64 k2, .string x2, .string o2, .string n2, .int .i64 t2, .int .i64 u2] 37 (0, 0))).cell? ⟨w3.heap.size, 1, none⟩ = some (.int .i64 b2) := by rw [cell_of_row _ _ _ _ _ _ HF28.out]; rfl
          have hc32 : (w3.alloc (.cells #[.int .i64 a2, .int .i64 b2, .int .i64 k2, .string x2, .string o2, .string n2, .int .i64 t2, .int .i64 u2] 37 (0, 0))).cell? ⟨w3.heap.size, 2, none⟩ = some (.int .i64 k2) := by rw [cell_of_row _ _ _ _ _ _ HF28.out]; rfl
          have hc33 : (w3.alloc (.cells #[.int .i64 a2, .int .i64 b2, .int .i64 k2, .string x2, .string o2, .string n2, .int .i64 t2, .int .i64 u2] 37 (0, 0))).cell? ⟨w3.heap.size, 3, none⟩ = some (.string x2) := by rw [cell_of_row _ _ _ _ _ _ HF28.out]; rfl
          have hc34 : (w3.alloc (.cells #[.int .i64 a2, .int .i64 b2, .int .i64 k2, .string x2, .string o2, .string n2, .int .i64 t2, .int .i64 u2] 37 (0, 0))).cell? ⟨w3.heap.size, 4, none⟩ = some (.string o2) := by rw [cell_of_row _ _ _ _ _ _ HF28.out]; rfl
          have hc35 : (w3.alloc (.cells #[.int .i64 a2, .int .i64 b2, .int .i64 k2, .string x2, .string o2, .string n2, .int .i64 t2, .int .i64 u2] 37 (0, 0))).cell? ⟨w3.heap.size, 5, none⟩ = some (.string n2) := by rw [cell_of_row _ _ _ _ _ _ HF28.out]; rfl
          have hc36 : (w3.alloc (.cells #[.int .i64 a2, .int .i64 b2, .int .i64 k2, .string x2, .string o2, .string n2, .int .i64 t2, .int .i64 u2] 37 (0, 0))).cell? ⟨w3.heap.size, 6, none⟩ = some (.int .i64 t2) := by rw [cell_of_row _ _ _ _ _ _ HF28.out]; rfl
          have hc37 : (w3.alloc (.cells #[.int .i64 a2, .int .i64 b2, .int .i64 k2, .string x2, .string o2, .string n2, .int .i64 t2, .int .i64 u2] 37 (0, 0))).cell? ⟨w3.heap.size, 7, none⟩ = some (.int .i64 u2) := by rw [cell_of_row _ _ _ _ _ _ HF28.out]; rfl
          go_wp2_with fail
          refine (HP2.out (w3.alloc (.cells #[.int .i64 a2, .int .i64 b2, .int .i64 k2, .string x2, .string o2, .string n2, .int .i64 t2, .int .i64 u2] 37 (0, 0))) (HT.out.later HB29.out)).mono ?_
          rintro e w4 ⟨rfl, hb4⟩
          clear hc30 hc31 hc32 hc33 hc34 hc35 hc36 hc37
          have HF38 := Lib.hid (blk_below HF27.out hb4)
          have HF39 := Lib.hid (blk_below HF28.out hb4)
          have HB40 := Lib.hid (HB29.out.trans (hb4.mono HB29.out.size))
          clear hb4 HB29 HF27 HF24 HF28
          go_wp2_with fail
          refine (HNO.out w4).mono ?_
          rintro e w5 ⟨rfl, hb5⟩
          have HF41 := Lib.hid (blk_below HF38.out hb5)
          have HF42 := Lib.hid (blk_below HF39.out hb5)
          have HB43 := Lib.hid (HB40.out.trans (hb5.mono HB40.out.size))
          clear hb5 HB40 HF38 HF39
          go_wp2_with fail
          refine (HT3.out w5 (HT.out.later HB43.out)).mono ?_
          rintro e w6 ⟨rfl, hb6⟩
          have HF44 := Lib.hid (blk_below HF41.out hb6)
          have HF45 := Lib.hid (blk_below HF42.out hb6)
          have HB46 := Lib.hid (HB43.out.trans (hb6.mono HB43.out.size))
          clear hb6 HB43 HF41 HF42
          have hk47 : w.heap.size < w6.heap.size := lt_of_block HF44.out
          have hk48 : w3.heap.size < w6.heap.size := lt_of_block HF45.out
          have HF49 := Lib.hid (blk_alloc HF44.out (.cells #[.int .i64 0, .int .i64 0, .int .i64 0, .string ⟨#[]⟩, .string ⟨#[]⟩, .string ⟨#[]⟩, .int .i64 0, .int .i64 0] 37 (0, 0)))
          have HF50 := Lib.hid (blk_alloc HF45.out (.cells #[.int .i64 0, .int .i64 0, .int .i64 0, .string ⟨#[]⟩, .string ⟨#[]⟩, .string ⟨#[]⟩, .int .i64 0, .int .i64 0] 37 (0, 0)))
          have HF51 := Lib.hid (blk_new w6 (.cells #[.int .i64 0, .int .i64 0, .int .i64 0, .string ⟨#[]⟩, .string ⟨#[]⟩, .string ⟨#[]⟩, .int .i64 0, .int .i64 0] 37 (0, 0)))
          have HB52 := Lib.hid (HB46.out.alloc HB46.out.size (.cells #[.int .i64 0, .int .i64 0, .int .i64 0, .string ⟨#[]⟩, .string ⟨#[]⟩, .string ⟨#[]⟩, .int .i64 0, .int .i64 0] 37 (0, 0)))
          clear HB46
          go_wp2_with fail
          refine (awake10 (w6.alloc (.cells #[.int .i64 0, .int .i64 0, .int .i64 0, .string ⟨#[]⟩, .string ⟨#[]⟩, .string ⟨#[]⟩, .int .i64 0, .int .i64 0] 37 (0, 0))) (HT.out.later HB52.out)).mono ?_
          rintro e w7 ⟨rfl, hb7⟩
          have HF53 := Lib.hid (blk_below HF49.out hb7)
          have HF54 := Lib.hid (blk_below HF50.out hb7)
          have HF55 := Lib.hid (blk_below HF51.out hb7)
          have HB56 := Lib.hid (HB52.out.trans (hb7.mono HB52.out.size))
          clear hb7 HB52 HF49 HF44 HF50 HF45 HF51
          go_wp2_with fail
          go_ret
          exact ⟨rfl, HB56.out⟩
        · have HT2 := Lib.hid (fun (W : World) (g : Tab W) => etake_no S W g h2 hr2)
          unfold recZ at HT2
          clear h2 hr2
          have HB1 := Lib.hid (Below.refl w.heap.size w)
          go_enter Tryd.func7, Tryd.ntmps7
          have HF2 := Lib.hid (blk_new w (.cells #[.int .i64 a, .int .i64 b, .int .i64 k, .string x, .string o, .string n, .int .i64 t, .int .i64 u] 37 (0, 0)))
          have HB3 := Lib.hid (HB1.out.alloc HB1.out.size (.cells #[.int .i64 a, .int .i64 b, .int .i64 k, .string x, .string o, .string n, .int .i64 t, .int .i64 u] 37 (0, 0)))
          clear HB1
          have hc4 : (w.alloc (.cells #[.int .i64 a, .int .i64 b, .int .i64 k, .string x, .string o, .string n, .int .i64 t, .int .i64 u] 37 (0, 0))).cell? ⟨w.heap.size, 0, none⟩ = some (.int .i64 a) := by rw [cell_of_row _ _ _ _ _ _ HF2.out]; rfl
          have hc5 : (w.alloc (.cells #[.int .i64 a, .int .i64 b, .int .i64 k, .string x, .string o, .string n, .int .i64 t, .int .i64 u] 37 (0, 0))).cell? ⟨w.heap.size, 1, none⟩ = some (.int .i64 b) := by rw [cell_of_row _ _ _ _ _ _ HF2.out]; rfl
          have hc6 : (w.alloc (.cells #[.int .i64 a, .int .i64 b, .int .i64 k, .string x, .string o, .string n, .int .i64 t, .int .i64 u] 37 (0, 0))).cell? ⟨w.heap.size, 2, none⟩ = some (.int .i64 k) := by rw [cell_of_row _ _ _ _ _ _ HF2.out]; rfl
          have hc7 : (w.alloc (.cells #[.int .i64 a, .int .i64 b, .int .i64 k, .string x, .string o, .string n, .int .i64 t, .int .i64 u] 37 (0, 0))).cell? ⟨w.heap.size, 3, none⟩ = some (.string x) := by rw [cell_of_row _ _ _ _ _ _ HF2.out]; rfl
          have hc8 : (w.alloc (.cells #[.int .i64 a, .int .i64 b, .int .i64 k, .string x, .string o, .string n, .int .i64 t, .int .i64 u] 37 (0, 0))).cell? ⟨w.heap.size, 4, none⟩ = some (.string o) := by rw [cell_of_row _ _ _ _ _ _ HF2.out]; rfl
          have hc9 : (w.alloc (.cells #[.int .i64 a, .int .i64 b, .int .i64 k, .string x, .string o, .string n, .int .i64 t, .int .i64 u] 37 (0, 0))).cell? ⟨w.heap.size, 5, none⟩ = some (.string n) := by rw [cell_of_row _ _ _ _ _ _ HF2.out]; rfl
          have hc10 : (w.alloc (.cells #[.int .i64 a, .int .i64 b, .int .i64 k, .string x, .string o, .string n, .int .i64 t, .int .i64 u] 37 (0, 0))).cell? ⟨w.heap.size, 6, none⟩ = some (.int .i64 t) := by rw [cell_of_row _ _ _ _ _ _ HF2.out]; rfl
          have hc11 : (w.alloc (.cells #[.int .i64 a, .int .i64 b, .int .i64 k, .string x, .string o, .string n, .int .i64 t, .int .i64 u] 37 (0, 0))).cell? ⟨w.heap.size, 7, none⟩ = some (.int .i64 u) := by rw [cell_of_row _ _ _ _ _ _ HF2.out]; rfl
          go_wp2_with fail
          refine (HF.out (w.alloc (.cells #[.int .i64 a, .int .i64 b, .int .i64 k, .string x, .string o, .string n, .int .i64 t, .int .i64 u] 37 (0, 0)))).mono ?_
          rintro e w1 ⟨rfl, hb1⟩
          clear hc4 hc5 hc6 hc7 hc8 hc9 hc10 hc11
          have HF12 := Lib.hid (blk_below HF2.out hb1)
          have HB13 := Lib.hid (HB3.out.trans (hb1.mono HB3.out.size))
          clear hb1 HB3 HF2
          have hc14 : w1.cell? ⟨w.heap.size, 0, none⟩ = some (.int .i64 a) := by rw [cell_of_row _ _ _ _ _ _ HF12.out]; rfl
          have hc15 : w1.cell? ⟨w.heap.size, 1, none⟩ = some (.int .i64 b) := by rw [cell_of_row _ _ _ _ _ _ HF12.out]; rfl
          have hc16 : w1.cell? ⟨w.heap.size, 2, none⟩ = some (.int .i64 k) := by rw [cell_of_row _ _ _ _ _ _ HF12.out]; rfl
          have hc17 : w1.cell? ⟨w.heap.size, 3, none⟩ = some (.string x) := by rw [cell_of_row _ _ _ _ _ _ HF12.out]; rfl
          have hc18 : w1.cell? ⟨w.heap.size, 4, none⟩ = some (.string o) := by rw [cell_of_row _ _ _ _ _ _ HF12.out]; rfl
          have hc19 : w1.cell? ⟨w.heap.size, 5, none⟩ = some (.string n) := by rw [cell_of_row _ _ _ _ _ _ HF12.out]; rfl
          have hc20 : w1.cell? ⟨w.heap.size, 6, none⟩ = some (.int .i64 t) := by rw [cell_of_row _ _ _ _ _ _ HF12.out]; rfl
          have hc21 : w1.cell? ⟨w.heap.size, 7, none⟩ = some (.int .i64 u) := by rw [cell_of_row _ _ _ _ _ _ HF12.out]; rfl
          go_wp2_with fail
          refine (HPU.out w1).mono ?_
          rintro e w2 ⟨rfl, hb2⟩
          clear hc14 hc15 hc16 hc17 hc18 hc19 hc20 hc21
          have HF22 := Lib.hid (blk_below HF12.out hb2)
          have HB23 := Lib.hid (HB13.out.trans (hb2.mono HB13.out.size))
          clear hb2 HB13 HF12
          go_wp2_with fail
          refine (HT2.out w2 (HT.out.later HB23.out)).mono ?_
          rintro e w3 ⟨rfl, hb3⟩
          have HF24 := Lib.hid (blk_below HF22.out hb3)
          have HB25 := Lib.hid (HB23.out.trans (hb3.mono HB23.out.size))
          clear hb3 HB23 HF22
          have hk26 : w.heap.size < w3.heap.size := lt_of_block HF24.out
          have HF27 := Lib.hid (blk_alloc HF24.out (.cells #[.int .i64 0, .int .i64 0, .int .i64 0, .string ⟨#[]⟩, .string ⟨#[]⟩, .string ⟨#[]⟩, .int .i64 0, .int .i64 0] 37 (0, 0)))
          have HF28 := Lib.hid (blk_new w3 (.cells #[.int .i64 0, .int .i64 0, .int .i64 0, .string ⟨#[]⟩, .string ⟨#[]⟩, .string ⟨#[]⟩, .int .i64 0, .int .i64 0] 37 (0, 0)))
          have HB29 := Lib.hid (HB25.out.alloc HB25.out.size (.cells #[.int .i64 0, .int .i64 0, .int .i64 0, .string ⟨#[]⟩, .string ⟨#[]⟩, .string ⟨#[]⟩, .int .i64 0, .int .i64 0] 37 (0, 0)))
          clear HB25
          have hc30 : (w3.alloc (.cells #[.int .i64 0, .int .i64 0, .int .i64 0, .string ⟨#[]⟩, .string ⟨#[]⟩, .string ⟨#[]⟩, .int .i64 0, .int .i64 0] 37 (0, 0))).cell? ⟨w3.heap.size, 0, none⟩ = some (.int .i64 0) := by rw [cell_of_row _ _ _ _ _ _ HF28.out]; rfl
          have hc31 : (w3.alloc (.cells #[.int .i64 0, .int .i64 0, .int .i64 0, .string ⟨#[]⟩, .string ⟨#[]⟩, .string ⟨#[]⟩, .int .i64 0, .int .i64 0] 37 (0, 0))).cell? ⟨w3.heap.size, 1, none⟩ = some (.int .i64 0) := by rw [cell_of_row _ _ _ _ _ _ HF28.out]; rfl
          have hc32 : (w3.alloc (.cells #[.int .i64 0, .int .i64 0, .int .i64 0, .string ⟨#[]⟩, .string ⟨#[]⟩, .string ⟨#[]⟩, .int .i64 0, .int .i64 0] 37 (0, 0))).cell? ⟨w3.heap.size, 2, none⟩ = some (.int .i64 0) := by rw [cell_of_row _ _ _ _ _ _ HF28.out]; rfl
          have hc33 : (w3.alloc (.cells #[.int .i64 0, .int .i64 0, .int .i64 0, .string ⟨#[]⟩, .string ⟨#[]⟩, .string ⟨#[]⟩, .int .i64 0, .int .i64 0] 37 (0, 0))).cell? ⟨w3.heap.size, 3, none⟩ = some (.string ⟨#[]⟩) := by rw [cell_of_row _ _ _ _ _ _ HF28.out]; rfl
          have hc34 : (w3.alloc (.cells #[.int .i64 0, .int .i64 0, .int .i64 0, .string ⟨#[]⟩, .string ⟨#[]⟩, .string ⟨#[]⟩, .int .i64 0, .int .i64 0] 37 (0, 0))).cell? ⟨w3.heap.size, 4, none⟩ = some (.string ⟨#[]⟩) := by rw [cell_of_row _ _ _ _ _ _ HF28.out]; rfl
          have hc35 : (w3.alloc (.cells #[.int .i64 0, .int .i64 0, .int .i64 0, .string ⟨#[]⟩, .string ⟨#[]⟩, .string ⟨#[]⟩, .int .i64 0, .int .i64 0] 37 (0, 0))).cell? ⟨w3.heap.size, 5, none⟩ = some (.string ⟨#[]⟩) := by rw [cell_of_row _ _ _ _ _ _ HF28.out]; rfl
          have hc36 : (w3.alloc (.cells #[.int .i64 0, .int .i64 0, .int .i64 0, .string ⟨#[]⟩, .string ⟨#[]⟩, .string ⟨#[]⟩, .int .i64 0, .int .i64 0] 37 (0, 0))).cell? ⟨w3.heap.size, 6, none⟩ = some (.int .i64 0) := by rw [cell_of_row _ _ _ _ _ _ HF28.out]; rfl
          have hc37 : (w3.alloc (.cells #[.int .i64 0, .int .i64 0, .int .i64 0, .string ⟨#[]⟩, .string ⟨#[]⟩, .string ⟨#[]⟩, .int .i64 0, .int .i64 0] 37 (0, 0))).cell? ⟨w3.heap.size, 7, none⟩ = some (.int .i64 0) := by rw [cell_of_row _ _ _ _ _ _ HF28.out]; rfl
          go_wp2_with fail
          refine (HNO.out (w3.alloc (.cells #[.int .i64 0, .int .i64 0, .int .i64 0, .string ⟨#[]⟩, .string ⟨#[]⟩, .string ⟨#[]⟩, .int .i64 0, .int .i64 0] 37 (0, 0)))).mono ?_
          rintro e w4 ⟨rfl, hb4⟩
          clear hc30 hc31 hc32 hc33 hc34 hc35 hc36 hc37
          have HF38 := Lib.hid (blk_below HF27.out hb4)
          have HF39 := Lib.hid (blk_below HF28.out hb4)
          have HB40 := Lib.hid (HB29.out.trans (hb4.mono HB29.out.size))
          clear hb4 HB29 HF27 HF24 HF28
          go_wp2_with fail
          refine (HT3.out w4 (HT.out.later HB40.out)).mono ?_
          rintro e w5 ⟨rfl, hb5⟩
          have HF41 := Lib.hid (blk_below HF38.out hb5)
          have HF42 := Lib.hid (blk_below HF39.out hb5)
          have HB43 := Lib.hid (HB40.out.trans (hb5.mono HB40.out.size))
          clear hb5 HB40 HF38 HF39
          have hk44 : w.heap.size < w5.heap.size := lt_of_block HF41.out
          have hk45 : w3.heap.size < w5.heap.size := lt_of_block HF42.out
          have HF46 := Lib.hid (blk_alloc HF41.out (.cells #[.int .i64 0, .int .i64 0, .int .i64 0, .string ⟨#[]⟩, .string ⟨#[]⟩, .string ⟨#[]⟩, .int .i64 0, .int .i64 0] 37 (0, 0)))
          have HF47 := Lib.hid (blk_alloc HF42.out (.cells #[.int .i64 0, .int .i64 0, .int .i64 0, .string ⟨#[]⟩, .string ⟨#[]⟩, .string ⟨#[]⟩, .int .i64 0, .int .i64 0] 37 (0, 0)))
          have HF48 := Lib.hid (blk_new w5 (.cells #[.int .i64 0, .int .i64 0, .int .i64 0, .string ⟨#[]⟩, .string ⟨#[]⟩, .string ⟨#[]⟩, .int .i64 0, .int .i64 0] 37 (0, 0)))
          have HB49 := Lib.hid (HB43.out.alloc HB43.out.size (.cells #[.int .i64 0, .int .i64 0, .int .i64 0, .string ⟨#[]⟩, .string ⟨#[]⟩, .string ⟨#[]⟩, .int .i64 0, .int .i64 0] 37 (0, 0)))
          clear HB43
          go_wp2_with fail
          refine (awake10 (w5.alloc (.cells #[.int .i64 0, .int .i64 0, .int .i64 0, .string ⟨#[]⟩, .string ⟨#[]⟩, .string ⟨#[]⟩, .int .i64 0, .int .i64 0] 37 (0, 0))) (HT.out.later HB49.out)).mono ?_
          rintro e w6 ⟨rfl, hb6⟩
          have HF50 := Lib.hid (blk_below HF46.out hb6)
          have HF51 := Lib.hid (blk_below HF47.out hb6)
          have HF52 := Lib.hid (blk_below HF48.out hb6)
          have HB53 := Lib.hid (HB49.out.trans (hb6.mono HB49.out.size))
          clear hb6 HB49 HF46 HF41 HF47 HF42 HF48
          go_wp2_with fail
          go_ret
          exact ⟨rfl, HB53.out⟩
    · have hd : decide ((1000 : Int) < (S.size : Int)) = true := decide_eq_true (by omega)
      clear h1 h2 hx
      have HB1 := Lib.hid (Below.refl w.heap.size w)
      go_enter Tryd.func7, Tryd.ntmps7
      have HF2 := Lib.hid (blk_new w (.cells #[.int .i64 a, .int .i64 b, .int .i64 k, .string x, .string o, .string n, .int .i64 t, .int .i64 u] 37 (0, 0)))
      have HB3 := Lib.hid (HB1.out.alloc HB1.out.size (.cells #[.int .i64 a, .int .i64 b, .int .i64 k, .string x, .string o, .string n, .int .i64 t, .int .i64 u] 37 (0, 0)))
      clear HB1
      have hc4 : (w.alloc (.cells #[.int .i64 a, .int .i64 b, .int .i64 k, .string x, .string o, .string n, .int .i64 t, .int .i64 u] 37 (0, 0))).cell? ⟨w.heap.size, 0, none⟩ = some (.int .i64 a) := by rw [cell_of_row _ _ _ _ _ _ HF2.out]; rfl
      have hc5 : (w.alloc (.cells #[.int .i64 a, .int .i64 b, .int .i64 k, .string x, .string o, .string n, .int .i64 t, .int .i64 u] 37 (0, 0))).cell? ⟨w.heap.size, 1, none⟩ = some (.int .i64 b) := by rw [cell_of_row _ _ _ _ _ _ HF2.out]; rfl
      have hc6 : (w.alloc (.cells #[.int .i64 a, .int .i64 b, .int .i64 k, .string x, .string o, .string n, .int .i64 t, .int .i64 u] 37 (0, 0))).cell? ⟨w.heap.size, 2, none⟩ = some (.int .i64 k) := by rw [cell_of_row _ _ _ _ _ _ HF2.out]; rfl
      have hc7 : (w.alloc (.cells #[.int .i64 a, .int .i64 b, .int .i64 k, .string x, .string o, .string n, .int .i64 t, .int .i64 u] 37 (0, 0))).cell? ⟨w.heap.size, 3, none⟩ = some (.string x) := by rw [cell_of_row _ _ _ _ _ _ HF2.out]; rfl
      have hc8 : (w.alloc (.cells #[.int .i64 a, .int .i64 b, .int .i64 k, .string x, .string o, .string n, .int .i64 t, .int .i64 u] 37 (0, 0))).cell? ⟨w.heap.size, 4, none⟩ = some (.string o) := by rw [cell_of_row _ _ _ _ _ _ HF2.out]; rfl
      have hc9 : (w.alloc (.cells #[.int .i64 a, .int .i64 b, .int .i64 k, .string x, .string o, .string n, .int .i64 t, .int .i64 u] 37 (0, 0))).cell? ⟨w.heap.size, 5, none⟩ = some (.string n) := by rw [cell_of_row _ _ _ _ _ _ HF2.out]; rfl
      have hc10 : (w.alloc (.cells #[.int .i64 a, .int .i64 b, .int .i64 k, .string x, .string o, .string n, .int .i64 t, .int .i64 u] 37 (0, 0))).cell? ⟨w.heap.size, 6, none⟩ = some (.int .i64 t) := by rw [cell_of_row _ _ _ _ _ _ HF2.out]; rfl
      have hc11 : (w.alloc (.cells #[.int .i64 a, .int .i64 b, .int .i64 k, .string x, .string o, .string n, .int .i64 t, .int .i64 u] 37 (0, 0))).cell? ⟨w.heap.size, 7, none⟩ = some (.int .i64 u) := by rw [cell_of_row _ _ _ _ _ _ HF2.out]; rfl
      go_wp2_with fail
      refine (HF.out (w.alloc (.cells #[.int .i64 a, .int .i64 b, .int .i64 k, .string x, .string o, .string n, .int .i64 t, .int .i64 u] 37 (0, 0)))).mono ?_
      rintro e w1 ⟨rfl, hb1⟩
      clear hc4 hc5 hc6 hc7 hc8 hc9 hc10 hc11
      have HF12 := Lib.hid (blk_below HF2.out hb1)
      have HB13 := Lib.hid (HB3.out.trans (hb1.mono HB3.out.size))
      clear hb1 HB3 HF2
      go_wp2_with fail
      refine (awake10 w1 (HT.out.later HB13.out)).mono ?_
      rintro e w2 ⟨rfl, hb2⟩
      have HF14 := Lib.hid (blk_below HF12.out hb2)
      have HB15 := Lib.hid (HB13.out.trans (hb2.mono HB13.out.size))
      clear hb2 HB13 HF12
      go_wp2_with fail
      go_ret
      exact ⟨rfl, HB15.out⟩
  · have HF := Lib.hid (fun W : World => few10_any a b k x o n t u false W (decide_eq_false h1))
    clear h1 hx
    have HB1 := Lib.hid (Below.refl w.heap.size w)
    go_enter Tryd.func7, Tryd.ntmps7
    have HF2 := Lib.hid (blk_new w (.cells #[.int .i64 a, .int .i64 b, .int .i64 k, .string x, .string o, .string n, .int .i64 t, .int .i64 u] 37 (0, 0)))
    have HB3 := Lib.hid (HB1.out.alloc HB1.out.size (.cells #[.int .i64 a, .int .i64 b, .int .i64 k, .string x, .string o, .string n, .int .i64 t, .int .i64 u] 37 (0, 0)))
    clear HB1
    have hc4 : (w.alloc (.cells #[.int .i64 a, .int .i64 b, .int .i64 k, .string x, .string o, .string n, .int .i64 t, .int .i64 u] 37 (0, 0))).cell? ⟨w.heap.size, 0, none⟩ = some (.int .i64 a) := by rw [cell_of_row _ _ _ _ _ _ HF2.out]; rfl
    have hc5 : (w.alloc (.cells #[.int .i64 a, .int .i64 b, .int .i64 k, .string x, .string o, .string n, .int .i64 t, .int .i64 u] 37 (0, 0))).cell? ⟨w.heap.size, 1, none⟩ = some (.int .i64 b) := by rw [cell_of_row _ _ _ _ _ _ HF2.out]; rfl
    have hc6 : (w.alloc (.cells #[.int .i64 a, .int .i64 b, .int .i64 k, .string x, .string o, .string n, .int .i64 t, .int .i64 u] 37 (0, 0))).cell? ⟨w.heap.size, 2, none⟩ = some (.int .i64 k) := by rw [cell_of_row _ _ _ _ _ _ HF2.out]; rfl
    have hc7 : (w.alloc (.cells #[.int .i64 a, .int .i64 b, .int .i64 k, .string x, .string o, .string n, .int .i64 t, .int .i64 u] 37 (0, 0))).cell? ⟨w.heap.size, 3, none⟩ = some (.string x) := by rw [cell_of_row _ _ _ _ _ _ HF2.out]; rfl
    have hc8 : (w.alloc (.cells #[.int .i64 a, .int .i64 b, .int .i64 k, .string x, .string o, .string n, .int .i64 t, .int .i64 u] 37 (0, 0))).cell? ⟨w.heap.size, 4, none⟩ = some (.string o) := by rw [cell_of_row _ _ _ _ _ _ HF2.out]; rfl
    have hc9 : (w.alloc (.cells #[.int .i64 a, .int .i64 b, .int .i64 k, .string x, .string o, .string n, .int .i64 t, .int .i64 u] 37 (0, 0))).cell? ⟨w.heap.size, 5, none⟩ = some (.string n) := by rw [cell_of_row _ _ _ _ _ _ HF2.out]; rfl
    have hc10 : (w.alloc (.cells #[.int .i64 a, .int .i64 b, .int .i64 k, .string x, .string o, .string n, .int .i64 t, .int .i64 u] 37 (0, 0))).cell? ⟨w.heap.size, 6, none⟩ = some (.int .i64 t) := by rw [cell_of_row _ _ _ _ _ _ HF2.out]; rfl
    have hc11 : (w.alloc (.cells #[.int .i64 a, .int .i64 b, .int .i64 k, .string x, .string o, .string n, .int .i64 t, .int .i64 u] 37 (0, 0))).cell? ⟨w.heap.size, 7, none⟩ = some (.int .i64 u) := by rw [cell_of_row _ _ _ _ _ _ HF2.out]; rfl
    go_wp2_with fail
    refine (HF.out (w.alloc (.cells #[.int .i64 a, .int .i64 b, .int .i64 k, .string x, .string o, .string n, .int .i64 t, .int .i64 u] 37 (0, 0)))).mono ?_
    rintro e w1 ⟨rfl, hb1⟩
    clear hc4 hc5 hc6 hc7 hc8 hc9 hc10 hc11
    have HF12 := Lib.hid (blk_below HF2.out hb1)
    have HB13 := Lib.hid (HB3.out.trans (hb1.mono HB3.out.size))
    clear hb1 HB3 HF2
    go_wp2_with fail
    refine (awake10 w1 (HT.out.later HB13.out)).mono ?_
    rintro e w2 ⟨rfl, hb2⟩
    have HF14 := Lib.hid (blk_below HF12.out hb2)
    have HB15 := Lib.hid (HB13.out.trans (hb2.mono HB13.out.size))
    clear hb2 HB13 HF12
    go_wp2_with fail
    go_ret
    exact ⟨rfl, HB15.out⟩
end Go.Proofs.YtpiafgdbjpfcaaaDoor.LEntryBack
