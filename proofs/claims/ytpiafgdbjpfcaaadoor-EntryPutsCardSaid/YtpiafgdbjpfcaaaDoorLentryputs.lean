/- The walk of EntryPuts over this translation. Condition: the table of crc. -/
import Derived.Test.YtpiafgdbjpfcaaaDoorRows
import Derived.Test.YtpiafgdbjpfcaaaDoorEw
import Derived.Deep.DeepCutAuto
namespace Go.Proofs.YtpiafgdbjpfcaaaDoor.LEntryPuts
open Go.RowKit Vi Cm

set_option maxHeartbeats 8000000 in
set_option maxRecDepth 100000 in
theorem walk (a b k : Int) (x o n : ByteArray) (t u : Int) (w : World) (hT : Tab w) (hx : x.size ≤ maxLen) :
    Calls Tryd.prog 5 #[.agg #[.int .i64 a, .int .i64 b, .int .i64 k, .string x, .string o, .string n, .int .i64 t, .int .i64 u]] w fun e w' => e = .returned (.bool true) ∧ Below w.heap.size w w' := by
  have HT := Lib.hid hT
  clear hT
  by_cases h1 : x.size ≤ 200 ∧ o.size ≤ 200 ∧ n.size ≤ 200
  · have HF := Lib.hid (fun W : World => few10_any a b k x o n t u true W (decide_eq_true h1))
    have HIS := Lib.hid (fun W : World => ris_any a b k x o n t u W hx)
    have HDP := Lib.hid (fun W : World => erputR_any a b k x o n t u W hx)
    have HCK := Lib.hid (fun W : World => rcheck_any a b k x o n t u W hx)
    unfold recD at HDP
    cases hr : rok a b k x o n t u with
    | true =>
      have HPU := Lib.hid (fun (W : World) (g : Tab W) => erput_yes a b k x o n t u W g hr)
      rw [hr] at HIS
      rw [← errR_yes hr] at HCK
      rw [if_pos hr] at HDP
      generalize recS a b k x o n t u = S at HPU HDP
      have hss : (S.toList == S.toList) = true := by simp
      clear hr h1 hx
      have HB1 := Lib.hid (Below.refl w.heap.size w)
      go_enter Tryd.func5, Tryd.ntmps5
      have HF2 := Lib.hid (blk_new w (.cells #[.int .i64 a, .int .i64 b, .int .i64 k, .string x, .string o, .string n, .int .i64 t, .int .i64 u] 37 (0, 0)))
      have HB3 := Lib.hid (HB1.out.alloc HB1.out.size (.cells #[.int .i64 a, .int .i64 b, .int .i64 k, .string x, .string o, .string n, .int .i64 t, .int .i64 u] 37 (0, 0)))
      clear HB1
      have hc4 : (w.alloc (.cells #[.int .i64 a, .int .i64 b, .int .i64 k, .string x, .string o, .string n, .int .i64 t, .int .i64 u] 37 (0, 0))).cell? ⟨w.heap.size, 0, none⟩ = some (.int .i64 a) := by rw [cell_of_row _ _ _ _ _ _ HF2.out]; rfl
      have hc5 : (w.alloc (.cells #[.int .i64 a, .int .i64 b, .int .i64 k, .string x, .string o, .string n, .int .i64 t, .int .i64 u] 37 (0, 0))).cell? ⟨w.heap.size, 1, none⟩ = some (.int .i64 b) := by rw [cell_of_row _ _ _ _ _ _ HF2.out]; rfl
      have hc6 : (w.alloc (.cells #[.int .i64 a, .int .i64 b, .int .i64 k, .string x, .string o, .string n, .int .i64 t, .int .i64 u] 37 (0, 0))).cell? ⟨w.heap.size, 2, none⟩ = some (.int .i64 k) := by rw [cell_of_row _ _ _ _ _ _ HF2.out]; rfl
      have hc7 : (w.alloc (.cells #[.int .i64 a, .int .i64 b, .int .i64 k, .string x, .string o, .string n, .int .i64 t, .int .i64 u] 37 (0, 0))).cell? ⟨w.heap.size, 3, none⟩ = some (.string x) := by rw [cell_of_row _ _ _ _ _ _ HF2.out]; rfl
      have hc8 : (w.alloc (.cells #[.int .i64 a, .int .i64 b, .int .i64 k, .string x, .string o, .string n, .int .i64 t, .int .i64 u] 37 (0, 0))).cell? ⟨w.heap.size, 4, none⟩ = some (.string o) := by rw [cell_of_row _ _ _ _ _ _ HF2.out]; rfl
      have hc9 : (w.alloc (.cells #[.int .i64 a, .int .i64 b, .int .i64 k, .string x, .string o, .string n, .int .i64 t, .int .i64 u] 37 (0, 0))).cell? ⟨w.heap.size, 5, none⟩ = some (.string n) := by rw [cell_of_row _ _ _ _ _ _ HF2.out]; rfl
      have hc10 : (w.alloc (.cells #[.int .i64 a, .int .i64 b, .int .i64 k, .string x, .string o, .string n, .int .i64 t, .int .i64 u] 37 (0, 0))).cell? ⟨w.heap.size, 6, none⟩ = some (.int .i64 t) := by rw [cell_of_row _ _ _ _ _ _ HF2.out]; rfl
      have hc11 : (w.alloc (.cells #[.int .i64 a, .int .i64 b, .int .i64 k, .string x, .string o, .string n, .int .i64 t, .int .i64 u] 37 (0, 0))).cell? ⟨w.heap.size, 7, none⟩ = some (.int .i64 u) := by rw [cell_of_row _ _ _ _ _ _ HF2.out]; rfl
      go_wp2_with fail
      refine (HF.out (w.alloc (.cells #[.int .i64 a, .int .i64 b, .int .i64 k, .string x, .string o, .string n, .int .i64 t, .int .i64 u] 37 (0, 0)))).mono ?_
      rintro e w1 ⟨rfl, hb1⟩
      clear hc4 hc5 hc6 hc7 hc8 hc9 hc10 hc11
      have HF12 := Lib.hid (blk_below HF2.out hb1)
      have HB13 := Lib.hid (HB3.out.trans (hb1.mono HB3.out.size))
      clear hb1 HB3 HF2
      have hc14 : w1.cell? ⟨w.heap.size, 0, none⟩ = some (.int .i64 a) := by rw [cell_of_row _ _ _ _ _ _ HF12.out]; rfl
      have hc15 : w1.cell? ⟨w.heap.size, 1, none⟩ = some (.int .i64 b) := by rw [cell_of_row _ _ _ _ _ _ HF12.out]; rfl
      have hc16 : w1.cell? ⟨w.heap.size, 2, none⟩ = some (.int .i64 k) := by rw [cell_of_row _ _ _ _ _ _ HF12.out]; rfl
      have hc17 : w1.cell? ⟨w.heap.size, 3, none⟩ = some (.string x) := by rw [cell_of_row _ _ _ _ _ _ HF12.out]; rfl
      have hc18 : w1.cell? ⟨w.heap.size, 4, none⟩ = some (.string o) := by rw [cell_of_row _ _ _ _ _ _ HF12.out]; rfl
      have hc19 : w1.cell? ⟨w.heap.size, 5, none⟩ = some (.string n) := by rw [cell_of_row _ _ _ _ _ _ HF12.out]; rfl
      have hc20 : w1.cell? ⟨w.heap.size, 6, none⟩ = some (.int .i64 t) := by rw [cell_of_row _ _ _ _ _ _ HF12.out]; rfl
      have hc21 : w1.cell? ⟨w.heap.size, 7, none⟩ = some (.int .i64 u) := by rw [cell_of_row _ _ _ _ _ _ HF12.out]; rfl
      go_wp2_with fail
      refine (HPU.out w1 (HT.out.later HB13.out)).mono ?_
      rintro e w2 ⟨rfl, hb2⟩
      clear hc14 hc15 hc16 hc17 hc18 hc19 hc20 hc21
      have HF22 := Lib.hid (blk_below HF12.out hb2)
      have HB23 := Lib.hid (HB13.out.trans (hb2.mono HB13.out.size))
      clear hb2 HB13 HF12
      have hc24 : w2.cell? ⟨w.heap.size, 0, none⟩ = some (.int .i64 a) := by rw [cell_of_row _ _ _ _ _ _ HF22.out]; rfl
      have hc25 : w2.cell? ⟨w.heap.size, 1, none⟩ = some (.int .i64 b) := by rw [cell_of_row _ _ _ _ _ _ HF22.out]; rfl
      have hc26 : w2.cell? ⟨w.heap.size, 2, none⟩ = some (.int .i64 k) := by rw [cell_of_row _ _ _ _ _ _ HF22.out]; rfl
      have hc27 : w2.cell? ⟨w.heap.size, 3, none⟩ = some (.string x) := by rw [cell_of_row _ _ _ _ _ _ HF22.out]; rfl
      have hc28 : w2.cell? ⟨w.heap.size, 4, none⟩ = some (.string o) := by rw [cell_of_row _ _ _ _ _ _ HF22.out]; rfl
      have hc29 : w2.cell? ⟨w.heap.size, 5, none⟩ = some (.string n) := by rw [cell_of_row _ _ _ _ _ _ HF22.out]; rfl
      have hc30 : w2.cell? ⟨w.heap.size, 6, none⟩ = some (.int .i64 t) := by rw [cell_of_row _ _ _ _ _ _ HF22.out]; rfl
      have hc31 : w2.cell? ⟨w.heap.size, 7, none⟩ = some (.int .i64 u) := by rw [cell_of_row _ _ _ _ _ _ HF22.out]; rfl
      go_wp2_with fail
      refine (HIS.out w2).mono ?_
      rintro e w3 ⟨rfl, hb3⟩
      clear hc24 hc25 hc26 hc27 hc28 hc29 hc30 hc31
      have HF32 := Lib.hid (blk_below HF22.out hb3)
      have HB33 := Lib.hid (HB23.out.trans (hb3.mono HB23.out.size))
      clear hb3 HB23 HF22
      have hc34 : w3.cell? ⟨w.heap.size, 0, none⟩ = some (.int .i64 a) := by rw [cell_of_row _ _ _ _ _ _ HF32.out]; rfl
      have hc35 : w3.cell? ⟨w.heap.size, 1, none⟩ = some (.int .i64 b) := by rw [cell_of_row _ _ _ _ _ _ HF32.out]; rfl
      have hc36 : w3.cell? ⟨w.heap.size, 2, none⟩ = some (.int .i64 k) := by rw [cell_of_row _ _ _ _ _ _ HF32.out]; rfl
      have hc37 : w3.cell? ⟨w.heap.size, 3, none⟩ = some (.string x) := by rw [cell_of_row _ _ _ _ _ _ HF32.out]; rfl
      have hc38 : w3.cell? ⟨w.heap.size, 4, none⟩ = some (.string o) := by rw [cell_of_row _ _ _ _ _ _ HF32.out]; rfl
      have hc39 : w3.cell? ⟨w.heap.size, 5, none⟩ = some (.string n) := by rw [cell_of_row _ _ _ _ _ _ HF32.out]; rfl
      have hc40 : w3.cell? ⟨w.heap.size, 6, none⟩ = some (.int .i64 t) := by rw [cell_of_row _ _ _ _ _ _ HF32.out]; rfl
      have hc41 : w3.cell? ⟨w.heap.size, 7, none⟩ = some (.int .i64 u) := by rw [cell_of_row _ _ _ _ _ _ HF32.out]; rfl
      go_wp2_with fail
      refine (HDP.out w3).mono ?_
      rintro e w4 ⟨rfl, hb4⟩
      clear hc34 hc35 hc36 hc37 hc38 hc39 hc40 hc41
      have HF42 := Lib.hid (blk_below HF32.out hb4)
      have HB43 := Lib.hid (HB33.out.trans (hb4.mono HB33.out.size))
      clear hb4 HB33 HF32
      have hc44 : w4.cell? ⟨w.heap.size, 0, none⟩ = some (.int .i64 a) := by rw [cell_of_row _ _ _ _ _ _ HF42.out]; rfl
      have hc45 : w4.cell? ⟨w.heap.size, 1, none⟩ = some (.int .i64 b) := by rw [cell_of_row _ _ _ _ _ _ HF42.out]; rfl
      have hc46 : w4.cell? ⟨w.heap.size, 2, none⟩ = some (.int .i64 k) := by rw [cell_of_row _ _ _ _ _ _ HF42.out]; rfl
      have hc47 : w4.cell? ⟨w.heap.size, 3, none⟩ = some (.string x) := by rw [cell_of_row _ _ _ _ _ _ HF42.out]; rfl
      have hc48 : w4.cell? ⟨w.heap.size, 4, none⟩ = some (.string o) := by rw [cell_of_row _ _ _ _ _ _ HF42.out]; rfl
      have hc49 : w4.cell? ⟨w.heap.size, 5, none⟩ = some (.string n) := by rw [cell_of_row _ _ _ _ _ _ HF42.out]; rfl
      have hc50 : w4.cell? ⟨w.heap.size, 6, none⟩ = some (.int .i64 t) := by rw [cell_of_row _ _ _ _ _ _ HF42.out]; rfl
      have hc51 : w4.cell? ⟨w.heap.size, 7, none⟩ = some (.int .i64 u) := by rw [cell_of_row _ _ _ _ _ _ HF42.out]; rfl
      go_wp2_with fail
      refine (HCK.out w4).mono ?_
      rintro e w5 ⟨rfl, hb5⟩
      clear hc44 hc45 hc46 hc47 hc48 hc49 hc50 hc51
      have HF52 := Lib.hid (blk_below HF42.out hb5)
      have HB53 := Lib.hid (HB43.out.trans (hb5.mono HB43.out.size))
      clear hb5 HB43 HF42
      go_wp2_with fail
      refine (awake10 w5 (HT.out.later HB53.out)).mono ?_
      rintro e w6 ⟨rfl, hb6⟩
      have HF54 := Lib.hid (blk_below HF52.out hb6)
      have HB55 := Lib.hid (HB53.out.trans (hb6.mono HB53.out.size))
      clear hb6 HB53 HF52
      go_wp2_with fail
      go_ret
      exact ⟨rfl, HB55.out⟩
    | false =>
      have HPU := Lib.hid (fun (W : World) => erput_no a b k x o n t u W hx hr)
      rw [hr] at HIS
      rw [← errR_no hr] at HCK
      rw [if_neg (by rw [hr]; simp)] at HDP
      clear hr h1 hx
      have HB1 := Lib.hid (Below.refl w.heap.size w)
      go_enter Tryd.func5, Tryd.ntmps5
      have HF2 := Lib.hid (blk_new w (.cells #[.int .i64 a, .int .i64 b, .int .i64 k, .string x, .string o, .string n, .int .i64 t, .int .i64 u] 37 (0, 0)))
      have HB3 := Lib.hid (HB1.out.alloc HB1.out.size (.cells #[.int .i64 a, .int .i64 b, .int .i64 k, .string x, .string o, .string n, .int .i64 t, .int .i64 u] 37 (0, 0)))
      clear HB1
      have hc4 : (w.alloc (.cells #[.int .i64 a, .int .i64 b, .int .i64 k, .string x, .string o, .string n, .int .i64 t, .int .i64 u] 37 (0, 0))).cell? ⟨w.heap.size, 0, none⟩ = some (.int .i64 a) := by rw [cell_of_row _ _ _ _ _ _ HF2.out]; rfl
      have hc5 : (w.alloc (.cells #[.int .i64 a, .int .i64 b, .int .i64 k, .string x, .string o, .string n, .int .i64 t, .int .i64 u] 37 (0, 0))).cell? ⟨w.heap.size, 1, none⟩ = some (.int .i64 b) := by rw [cell_of_row _ _ _ _ _ _ HF2.out]; rfl
      have hc6 : (w.alloc (.cells #[.int .i64 a, .int .i64 b, .int .i64 k, .string x, .string o, .string n, .int .i64 t, .int .i64 u] 37 (0, 0))).cell? ⟨w.heap.size, 2, none⟩ = some (.int .i64 k) := by rw [cell_of_row _ _ _ _ _ _ HF2.out]; rfl
      have hc7 : (w.alloc (.cells #[.int .i64 a, .int .i64 b, .int .i64 k, .string x, .string o, .string n, .int .i64 t, .int .i64 u] 37 (0, 0))).cell? ⟨w.heap.size, 3, none⟩ = some (.string x) := by rw [cell_of_row _ _ _ _ _ _ HF2.out]; rfl
      have hc8 : (w.alloc (.cells #[.int .i64 a, .int .i64 b, .int .i64 k, .string x, .string o, .string n, .int .i64 t, .int .i64 u] 37 (0, 0))).cell? ⟨w.heap.size, 4, none⟩ = some (.string o) := by rw [cell_of_row _ _ _ _ _ _ HF2.out]; rfl
      have hc9 : (w.alloc (.cells #[.int .i64 a, .int .i64 b, .int .i64 k, .string x, .string o, .string n, .int .i64 t, .int .i64 u] 37 (0, 0))).cell? ⟨w.heap.size, 5, none⟩ = some (.string n) := by rw [cell_of_row _ _ _ _ _ _ HF2.out]; rfl
      have hc10 : (w.alloc (.cells #[.int .i64 a, .int .i64 b, .int .i64 k, .string x, .string o, .string n, .int .i64 t, .int .i64 u] 37 (0, 0))).cell? ⟨w.heap.size, 6, none⟩ = some (.int .i64 t) := by rw [cell_of_row _ _ _ _ _ _ HF2.out]; rfl
      have hc11 : (w.alloc (.cells #[.int .i64 a, .int .i64 b, .int .i64 k, .string x, .string o, .string n, .int .i64 t, .int .i64 u] 37 (0, 0))).cell? ⟨w.heap.size, 7, none⟩ = some (.int .i64 u) := by rw [cell_of_row _ _ _ _ _ _ HF2.out]; rfl
      go_wp2_with fail
      refine (HF.out (w.alloc (.cells #[.int .i64 a, .int .i64 b, .int .i64 k, .string x, .string o, .string n, .int .i64 t, .int .i64 u] 37 (0, 0)))).mono ?_
      rintro e w1 ⟨rfl, hb1⟩
      clear hc4 hc5 hc6 hc7 hc8 hc9 hc10 hc11
      have HF12 := Lib.hid (blk_below HF2.out hb1)
      have HB13 := Lib.hid (HB3.out.trans (hb1.mono HB3.out.size))
      clear hb1 HB3 HF2
      have hc14 : w1.cell? ⟨w.heap.size, 0, none⟩ = some (.int .i64 a) := by rw [cell_of_row _ _ _ _ _ _ HF12.out]; rfl
      have hc15 : w1.cell? ⟨w.heap.size, 1, none⟩ = some (.int .i64 b) := by rw [cell_of_row _ _ _ _ _ _ HF12.out]; rfl
      have hc16 : w1.cell? ⟨w.heap.size, 2, none⟩ = some (.int .i64 k) := by rw [cell_of_row _ _ _ _ _ _ HF12.out]; rfl
      have hc17 : w1.cell? ⟨w.heap.size, 3, none⟩ = some (.string x) := by rw [cell_of_row _ _ _ _ _ _ HF12.out]; rfl
      have hc18 : w1.cell? ⟨w.heap.size, 4, none⟩ = some (.string o) := by rw [cell_of_row _ _ _ _ _ _ HF12.out]; rfl
      have hc19 : w1.cell? ⟨w.heap.size, 5, none⟩ = some (.string n) := by rw [cell_of_row _ _ _ _ _ _ HF12.out]; rfl
      have hc20 : w1.cell? ⟨w.heap.size, 6, none⟩ = some (.int .i64 t) := by rw [cell_of_row _ _ _ _ _ _ HF12.out]; rfl
      have hc21 : w1.cell? ⟨w.heap.size, 7, none⟩ = some (.int .i64 u) := by rw [cell_of_row _ _ _ _ _ _ HF12.out]; rfl
      go_wp2_with fail
      refine (HPU.out w1).mono ?_
      rintro e w2 ⟨rfl, hb2⟩
      clear hc14 hc15 hc16 hc17 hc18 hc19 hc20 hc21
      have HF22 := Lib.hid (blk_below HF12.out hb2)
      have HB23 := Lib.hid (HB13.out.trans (hb2.mono HB13.out.size))
      clear hb2 HB13 HF12
      have hc24 : w2.cell? ⟨w.heap.size, 0, none⟩ = some (.int .i64 a) := by rw [cell_of_row _ _ _ _ _ _ HF22.out]; rfl
      have hc25 : w2.cell? ⟨w.heap.size, 1, none⟩ = some (.int .i64 b) := by rw [cell_of_row _ _ _ _ _ _ HF22.out]; rfl
      have hc26 : w2.cell? ⟨w.heap.size, 2, none⟩ = some (.int .i64 k) := by rw [cell_of_row _ _ _ _ _ _ HF22.out]; rfl
      have hc27 : w2.cell? ⟨w.heap.size, 3, none⟩ = some (.string x) := by rw [cell_of_row _ _ _ _ _ _ HF22.out]; rfl
      have hc28 : w2.cell? ⟨w.heap.size, 4, none⟩ = some (.string o) := by rw [cell_of_row _ _ _ _ _ _ HF22.out]; rfl
      have hc29 : w2.cell? ⟨w.heap.size, 5, none⟩ = some (.string n) := by rw [cell_of_row _ _ _ _ _ _ HF22.out]; rfl
      have hc30 : w2.cell? ⟨w.heap.size, 6, none⟩ = some (.int .i64 t) := by rw [cell_of_row _ _ _ _ _ _ HF22.out]; rfl
      have hc31 : w2.cell? ⟨w.heap.size, 7, none⟩ = some (.int .i64 u) := by rw [cell_of_row _ _ _ _ _ _ HF22.out]; rfl
      go_wp2_with fail
      refine (HIS.out w2).mono ?_
      rintro e w3 ⟨rfl, hb3⟩
      clear hc24 hc25 hc26 hc27 hc28 hc29 hc30 hc31
      have HF32 := Lib.hid (blk_below HF22.out hb3)
      have HB33 := Lib.hid (HB23.out.trans (hb3.mono HB23.out.size))
      clear hb3 HB23 HF22
      have hc34 : w3.cell? ⟨w.heap.size, 0, none⟩ = some (.int .i64 a) := by rw [cell_of_row _ _ _ _ _ _ HF32.out]; rfl
      have hc35 : w3.cell? ⟨w.heap.size, 1, none⟩ = some (.int .i64 b) := by rw [cell_of_row _ _ _ _ _ _ HF32.out]; rfl
      have hc36 : w3.cell? ⟨w.heap.size, 2, none⟩ = some (.int .i64 k) := by rw [cell_of_row _ _ _ _ _ _ HF32.out]; rfl
      have hc37 : w3.cell? ⟨w.heap.size, 3, none⟩ = some (.string x) := by rw [cell_of_row _ _ _ _ _ _ HF32.out]; rfl
      have hc38 : w3.cell? ⟨w.heap.size, 4, none⟩ = some (.string o) := by rw [cell_of_row _ _ _ _ _ _ HF32.out]; rfl
      have hc39 : w3.cell? ⟨w.heap.size, 5, none⟩ = some (.string n) := by rw [cell_of_row _ _ _ _ _ _ HF32.out]; rfl
      have hc40 : w3.cell? ⟨w.heap.size, 6, none⟩ = some (.int .i64 t) := by rw [cell_of_row _ _ _ _ _ _ HF32.out]; rfl
      have hc41 : w3.cell? ⟨w.heap.size, 7, none⟩ = some (.int .i64 u) := by rw [cell_of_row _ _ _ _ _ _ HF32.out]; rfl
      go_wp2_with fail
      refine (HDP.out w3).mono ?_
      rintro e w4 ⟨rfl, hb4⟩
      clear hc34 hc35 hc36 hc37 hc38 hc39 hc40 hc41
      have HF42 := Lib.hid (blk_below HF32.out hb4)
      have HB43 := Lib.hid (HB33.out.trans (hb4.mono HB33.out.size))
      clear hb4 HB33 HF32
      have hc44 : w4.cell? ⟨w.heap.size, 0, none⟩ = some (.int .i64 a) := by rw [cell_of_row _ _ _ _ _ _ HF42.out]; rfl
      have hc45 : w4.cell? ⟨w.heap.size, 1, none⟩ = some (.int .i64 b) := by rw [cell_of_row _ _ _ _ _ _ HF42.out]; rfl
      have hc46 : w4.cell? ⟨w.heap.size, 2, none⟩ = some (.int .i64 k) := by rw [cell_of_row _ _ _ _ _ _ HF42.out]; rfl
      have hc47 : w4.cell? ⟨w.heap.size, 3, none⟩ = some (.string x) := by rw [cell_of_row _ _ _ _ _ _ HF42.out]; rfl
      have hc48 : w4.cell? ⟨w.heap.size, 4, none⟩ = some (.string o) := by rw [cell_of_row _ _ _ _ _ _ HF42.out]; rfl
      have hc49 : w4.cell? ⟨w.heap.size, 5, none⟩ = some (.string n) := by rw [cell_of_row _ _ _ _ _ _ HF42.out]; rfl
      have hc50 : w4.cell? ⟨w.heap.size, 6, none⟩ = some (.int .i64 t) := by rw [cell_of_row _ _ _ _ _ _ HF42.out]; rfl
      have hc51 : w4.cell? ⟨w.heap.size, 7, none⟩ = some (.int .i64 u) := by rw [cell_of_row _ _ _ _ _ _ HF42.out]; rfl
      go_wp2_with fail
      refine (HCK.out w4).mono ?_
      rintro e w5 ⟨rfl, hb5⟩
      clear hc44 hc45 hc46 hc47 hc48 hc49 hc50 hc51
      have HF52 := Lib.hid (blk_below HF42.out hb5)
      have HB53 := Lib.hid (HB43.out.trans (hb5.mono HB43.out.size))
      clear hb5 HB43 HF42
      go_wp2_with fail
      refine (awake10 w5 (HT.out.later HB53.out)).mono ?_
      rintro e w6 ⟨rfl, hb6⟩
      have HF54 := Lib.hid (blk_below HF52.out hb6)
      have HB55 := Lib.hid (HB53.out.trans (hb6.mono HB53.out.size))
      clear hb6 HB53 HF52
      go_wp2_with fail
      go_ret
      exact ⟨rfl, HB55.out⟩
  · have HF := Lib.hid (fun W : World => few10_any a b k x o n t u false W (decide_eq_false h1))
    clear h1 hx
    have HB1 := Lib.hid (Below.refl w.heap.size w)
    go_enter Tryd.func5, Tryd.ntmps5
    have HF2 := Lib.hid (blk_new w (.cells #[.int .i64 a, .int .i64 b, .int .i64 k, .string x, .string o, .string n, .int .i64 t, .int .i64 u] 37 (0, 0)))
    have HB3 := Lib.hid (HB1.out.alloc HB1.out.size (.cells #[.int .i64 a, .int .i64 b, .int .i64 k, .string x, .string o, .string n, .int .i64 t, .int .i64 u] 37 (0, 0)))
    clear HB1
    have hc4 : (w.alloc (.cells #[.int .i64 a, .int .i64 b, .int .i64 k, .string x, .string o, .string n, .int .i64 t, .int .i64 u] 37 (0, 0))).cell? ⟨w.heap.size, 0, none⟩ = some (.int .i64 a) := by rw [cell_of_row _ _ _ _ _ _ HF2.out]; rfl
    have hc5 : (w.alloc (.cells #[.int .i64 a, .int .i64 b, .int .i64 k, .string x, .string o, .string n, .int .i64 t, .int .i64 u] 37 (0, 0))).cell? ⟨w.heap.size, 1, none⟩ = some (.int .i64 b) := by rw [cell_of_row _ _ _ _ _ _ HF2.out]; rfl
    have hc6 : (w.alloc (.cells #[.int .i64 a, .int .i64 b, .int .i64 k, .string x, .string o, .string n, .int .i64 t, .int .i64 u] 37 (0, 0))).cell? ⟨w.heap.size, 2, none⟩ = some (.int .i64 k) := by rw [cell_of_row _ _ _ _ _ _ HF2.out]; rfl
    have hc7 : (w.alloc (.cells #[.int .i64 a, .int .i64 b, .int .i64 k, .string x, .string o, .string n, .int .i64 t, .int .i64 u] 37 (0, 0))).cell? ⟨w.heap.size, 3, none⟩ = some (.string x) := by rw [cell_of_row _ _ _ _ _ _ HF2.out]; rfl
    have hc8 : (w.alloc (.cells #[.int .i64 a, .int .i64 b, .int .i64 k, .string x, .string o, .string n, .int .i64 t, .int .i64 u] 37 (0, 0))).cell? ⟨w.heap.size, 4, none⟩ = some (.string o) := by rw [cell_of_row _ _ _ _ _ _ HF2.out]; rfl
    have hc9 : (w.alloc (.cells #[.int .i64 a, .int .i64 b, .int .i64 k, .string x, .string o, .string n, .int .i64 t, .int .i64 u] 37 (0, 0))).cell? ⟨w.heap.size, 5, none⟩ = some (.string n) := by rw [cell_of_row _ _ _ _ _ _ HF2.out]; rfl
    have hc10 : (w.alloc (.cells #[.int .i64 a, .int .i64 b, .int .i64 k, .string x, .string o, .string n, .int .i64 t, .int .i64 u] 37 (0, 0))).cell? ⟨w.heap.size, 6, none⟩ = some (.int .i64 t) := by rw [cell_of_row _ _ _ _ _ _ HF2.out]; rfl
    have hc11 : (w.alloc (.cells #[.int .i64 a, .int .i64 b, .int .i64 k, .string x, .string o, .string n, .int .i64 t, .int .i64 u] 37 (0, 0))).cell? ⟨w.heap.size, 7, none⟩ = some (.int .i64 u) := by rw [cell_of_row _ _ _ _ _ _ HF2.out]; rfl
    go_wp2_with fail
    refine (HF.out (w.alloc (.cells #[.int .i64 a, .int .i64 b, .int .i64 k, .string x, .string o, .string n, .int .i64 t, .int .i64 u] 37 (0, 0)))).mono ?_
    rintro e w1 ⟨rfl, hb1⟩
    clear hc4 hc5 hc6 hc7 hc8 hc9 hc10 hc11
    have HF12 := Lib.hid (blk_below HF2.out hb1)
    have HB13 := Lib.hid (HB3.out.trans (hb1.mono HB3.out.size))
    clear hb1 HB3 HF2
    go_wp2_with fail
    refine (awake10 w1 (HT.out.later HB13.out)).mono ?_
    rintro e w2 ⟨rfl, hb2⟩
    have HF14 := Lib.hid (blk_below HF12.out hb2)
    have HB15 := Lib.hid (HB13.out.trans (hb2.mono HB13.out.size))
    clear hb2 HB13 HF12
    go_wp2_with fail
    go_ret
    exact ⟨rfl, HB15.out⟩
end Go.Proofs.YtpiafgdbjpfcaaaDoor.LEntryPuts
