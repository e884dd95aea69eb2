/- The walk of ElemEdges over this translation. Conditions: texts that are no longer than a text may be; numbers that are ones. -/
import Derived.Test.YtdjjabjegmbmaaaAf
namespace Go.Proofs.Ytdjjabjegmbmaaa.LElemEdges
open Go.RowKit Vi

set_option maxRecDepth 100000 in
set_option maxHeartbeats 4000000 in
theorem walk (i f g : ByteArray) (A A2 : Option Addr) (n c n2 c2 : Nat) (ss : List ByteArray) (ps : List Pr) (w : World) (h : LP w A n ss A2 n2 ps) (k : LOk n ss n2 ps) (ki : IntsOk ps) (hi : i.size ≤ maxLen) (hf : f.size ≤ maxLen) (hg : g.size ≤ maxLen) :
    Calls Try.prog 6 #[.agg #[.string i, .string f, .string g, .slice A n c, .slice A2 n2 c2]] w fun e w' => e = .returned (.bool true) ∧ Below w.heap.size w w' := by
  have H := Lib.hid h
  by_cases li : 100 < i.size
  · have di : decide ((100 : Int) < (i.size : Int)) = true := decide_eq_true (by omega)
    have HB1 := Lib.hid (Below.refl w.heap.size w)
    go_enter Try.func6, Try.ntmps6
    have HF2 := Lib.hid (blk_new w (.cells #[.string i, .string f, .string g, .slice A n c, .slice A2 n2 c2] 59 (0, 0)))
    have HB3 := Lib.hid (HB1.out.alloc HB1.out.size (.cells #[.string i, .string f, .string g, .slice A n c, .slice A2 n2 c2] 59 (0, 0)))
    clear HB1
    have hc4 : (w.alloc (.cells #[.string i, .string f, .string g, .slice A n c, .slice A2 n2 c2] 59 (0, 0))).cell? ⟨w.heap.size, 0, none⟩ = some (.string i) := by rw [cell_of_row _ _ _ _ _ _ HF2.out]; rfl
    have hc5 : (w.alloc (.cells #[.string i, .string f, .string g, .slice A n c, .slice A2 n2 c2] 59 (0, 0))).cell? ⟨w.heap.size, 1, none⟩ = some (.string f) := by rw [cell_of_row _ _ _ _ _ _ HF2.out]; rfl
    have hc6 : (w.alloc (.cells #[.string i, .string f, .string g, .slice A n c, .slice A2 n2 c2] 59 (0, 0))).cell? ⟨w.heap.size, 2, none⟩ = some (.string g) := by rw [cell_of_row _ _ _ _ _ _ HF2.out]; rfl
    have hc7 : (w.alloc (.cells #[.string i, .string f, .string g, .slice A n c, .slice A2 n2 c2] 59 (0, 0))).cell? ⟨w.heap.size, 3, none⟩ = some (.slice A n c) := by rw [cell_of_row _ _ _ _ _ _ HF2.out]; rfl
    have hc8 : (w.alloc (.cells #[.string i, .string f, .string g, .slice A n c, .slice A2 n2 c2] 59 (0, 0))).cell? ⟨w.heap.size, 4, none⟩ = some (.slice A2 n2 c2) := by rw [cell_of_row _ _ _ _ _ _ HF2.out]; rfl
    go_wp2_with fail
    clear hc4 hc5 hc6 hc7 hc8
    refine (awake25 (w.alloc (.cells #[.string i, .string f, .string g, .slice A n c, .slice A2 n2 c2] 59 (0, 0)))).mono ?_
    rintro e w1 ⟨rfl, hb1⟩
    have HF9 := Lib.hid (blk_below HF2.out hb1)
    have HB10 := Lib.hid (HB3.out.trans (hb1.mono HB3.out.size))
    clear hb1 HB3 HF2
    go_wp2_with fail
    go_ret
    exact ⟨rfl, HB10.out⟩
  have di : decide ((100 : Int) < (i.size : Int)) = false := decide_eq_false (by omega)
  by_cases lf : 100 < f.size
  · have df : decide ((100 : Int) < (f.size : Int)) = true := decide_eq_true (by omega)
    have HB1 := Lib.hid (Below.refl w.heap.size w)
    go_enter Try.func6, Try.ntmps6
    have HF2 := Lib.hid (blk_new w (.cells #[.string i, .string f, .string g, .slice A n c, .slice A2 n2 c2] 59 (0, 0)))
    have HB3 := Lib.hid (HB1.out.alloc HB1.out.size (.cells #[.string i, .string f, .string g, .slice A n c, .slice A2 n2 c2] 59 (0, 0)))
    clear HB1
    have hc4 : (w.alloc (.cells #[.string i, .string f, .string g, .slice A n c, .slice A2 n2 c2] 59 (0, 0))).cell? ⟨w.heap.size, 0, none⟩ = some (.string i) := by rw [cell_of_row _ _ _ _ _ _ HF2.out]; rfl
    have hc5 : (w.alloc (.cells #[.string i, .string f, .string g, .slice A n c, .slice A2 n2 c2] 59 (0, 0))).cell? ⟨w.heap.size, 1, none⟩ = some (.string f) := by rw [cell_of_row _ _ _ _ _ _ HF2.out]; rfl
    have hc6 : (w.alloc (.cells #[.string i, .string f, .string g, .slice A n c, .slice A2 n2 c2] 59 (0, 0))).cell? ⟨w.heap.size, 2, none⟩ = some (.string g) := by rw [cell_of_row _ _ _ _ _ _ HF2.out]; rfl
    have hc7 : (w.alloc (.cells #[.string i, .string f, .string g, .slice A n c, .slice A2 n2 c2] 59 (0, 0))).cell? ⟨w.heap.size, 3, none⟩ = some (.slice A n c) := by rw [cell_of_row _ _ _ _ _ _ HF2.out]; rfl
    have hc8 : (w.alloc (.cells #[.string i, .string f, .string g, .slice A n c, .slice A2 n2 c2] 59 (0, 0))).cell? ⟨w.heap.size, 4, none⟩ = some (.slice A2 n2 c2) := by rw [cell_of_row _ _ _ _ _ _ HF2.out]; rfl
    go_wp2_with fail
    clear hc4 hc5 hc6 hc7 hc8
    refine (awake25 (w.alloc (.cells #[.string i, .string f, .string g, .slice A n c, .slice A2 n2 c2] 59 (0, 0)))).mono ?_
    rintro e w1 ⟨rfl, hb1⟩
    have HF9 := Lib.hid (blk_below HF2.out hb1)
    have HB10 := Lib.hid (HB3.out.trans (hb1.mono HB3.out.size))
    clear hb1 HB3 HF2
    go_wp2_with fail
    go_ret
    exact ⟨rfl, HB10.out⟩
  have df : decide ((100 : Int) < (f.size : Int)) = false := decide_eq_false (by omega)
  by_cases lg : 100 < g.size
  · have dg : decide ((100 : Int) < (g.size : Int)) = true := decide_eq_true (by omega)
    have HB1 := Lib.hid (Below.refl w.heap.size w)
    go_enter Try.func6, Try.ntmps6
    have HF2 := Lib.hid (blk_new w (.cells #[.string i, .string f, .string g, .slice A n c, .slice A2 n2 c2] 59 (0, 0)))
    have HB3 := Lib.hid (HB1.out.alloc HB1.out.size (.cells #[.string i, .string f, .string g, .slice A n c, .slice A2 n2 c2] 59 (0, 0)))
    clear HB1
    have hc4 : (w.alloc (.cells #[.string i, .string f, .string g, .slice A n c, .slice A2 n2 c2] 59 (0, 0))).cell? ⟨w.heap.size, 0, none⟩ = some (.string i) := by rw [cell_of_row _ _ _ _ _ _ HF2.out]; rfl
    have hc5 : (w.alloc (.cells #[.string i, .string f, .string g, .slice A n c, .slice A2 n2 c2] 59 (0, 0))).cell? ⟨w.heap.size, 1, none⟩ = some (.string f) := by rw [cell_of_row _ _ _ _ _ _ HF2.out]; rfl
    have hc6 : (w.alloc (.cells #[.string i, .string f, .string g, .slice A n c, .slice A2 n2 c2] 59 (0, 0))).cell? ⟨w.heap.size, 2, none⟩ = some (.string g) := by rw [cell_of_row _ _ _ _ _ _ HF2.out]; rfl
    have hc7 : (w.alloc (.cells #[.string i, .string f, .string g, .slice A n c, .slice A2 n2 c2] 59 (0, 0))).cell? ⟨w.heap.size, 3, none⟩ = some (.slice A n c) := by rw [cell_of_row _ _ _ _ _ _ HF2.out]; rfl
    have hc8 : (w.alloc (.cells #[.string i, .string f, .string g, .slice A n c, .slice A2 n2 c2] 59 (0, 0))).cell? ⟨w.heap.size, 4, none⟩ = some (.slice A2 n2 c2) := by rw [cell_of_row _ _ _ _ _ _ HF2.out]; rfl
    go_wp2_with fail
    clear hc4 hc5 hc6 hc7 hc8
    refine (awake25 (w.alloc (.cells #[.string i, .string f, .string g, .slice A n c, .slice A2 n2 c2] 59 (0, 0)))).mono ?_
    rintro e w1 ⟨rfl, hb1⟩
    have HF9 := Lib.hid (blk_below HF2.out hb1)
    have HB10 := Lib.hid (HB3.out.trans (hb1.mono HB3.out.size))
    clear hb1 HB3 HF2
    go_wp2_with fail
    go_ret
    exact ⟨rfl, HB10.out⟩
  have dg : decide ((100 : Int) < (g.size : Int)) = false := decide_eq_false (by omega)
  have HFW := Lib.hid (fun (W : World) (q : LP W A n ss A2 n2 ps) => few25_any A A2 n c n2 c2 ss ps W q k)
  obtain ⟨z, hz⟩ : ∃ z, z = edW i f g ss ps := ⟨_, rfl⟩
  obtain ⟨T, HP, HRP⟩ : ∃ T, Hid (∀ (W : World) (q : LP W A n ss A2 n2 ps), Calls Try.prog 32 #[.agg #[.string i, .string f, .string g, .slice A n c, .slice A2 n2 c2]] W fun e w' => e = .returned (.tuple #[.string T, .int .i64 z]) ∧ Below W.heap.size W w') ∧
      Hid (∀ (W : World) (q : LP W A n ss A2 n2 ps), Calls Try.prog 33 #[.agg #[.string i, .string f, .string g, .slice A n c, .slice A2 n2 c2]] W fun e w' => e = .returned (.string T) ∧ Below W.heap.size W w') := by
    by_cases hzz : z = 0
    · have hz' : edW i f g ss ps = 0 := by rw [← hz]; exact hzz
      exact ⟨_, Lib.hid (fun W q => by rw [hzz]; exact pedge_yes i f g A A2 n c n2 c2 ss ps W q k hi hf hg hz' ki), Lib.hid (fun W q => rpedge_yes i f g A A2 n c n2 c2 ss ps W q k hi hf hg hz' ki)⟩
    · have hz' : edW i f g ss ps ≠ 0 := by rw [← hz]; exact hzz
      exact ⟨_, Lib.hid (fun W q => by rw [hz]; exact pedge_no i f g A A2 n c n2 c2 ss ps W q k hi hf hg hz'), Lib.hid (fun W q => rpedge_no i f g A A2 n c n2 c2 ss ps W q k hi hf hg hz')⟩
  have HC := Lib.hid (fun (W : World) (q : LP W A n ss A2 n2 ps) => cedge_any i f g A A2 n c n2 c2 ss ps W q k hi hf hg)
  have HR := Lib.hid (fun (W : World) (q : LP W A n ss A2 n2 ps) => redge_any i f g A A2 n c n2 c2 ss ps W q k hi hf hg)
  rw [← hz] at HC HR
  have hst : (T.toList == T.toList) = true := by simp
  clear h k ki hz   
  have HB1 := Lib.hid (Below.refl w.heap.size w)
  go_enter Try.func6, Try.ntmps6
  have HF2 := Lib.hid (blk_new w (.cells #[.string i, .string f, .string g, .slice A n c, .slice A2 n2 c2] 59 (0, 0)))
  have HB3 := Lib.hid (HB1.out.alloc HB1.out.size (.cells #[.string i, .string f, .string g, .slice A n c, .slice A2 n2 c2] 59 (0, 0)))
  clear HB1
  have hc4 : (w.alloc (.cells #[.string i, .string f, .string g, .slice A n c, .slice A2 n2 c2] 59 (0, 0))).cell? ⟨w.heap.size, 0, none⟩ = some (.string i) := by rw [cell_of_row _ _ _ _ _ _ HF2.out]; rfl
  have hc5 : (w.alloc (.cells #[.string i, .string f, .string g, .slice A n c, .slice A2 n2 c2] 59 (0, 0))).cell? ⟨w.heap.size, 1, none⟩ = some (.string f) := by rw [cell_of_row _ _ _ _ _ _ HF2.out]; rfl
  have hc6 : (w.alloc (.cells #[.string i, .string f, .string g, .slice A n c, .slice A2 n2 c2] 59 (0, 0))).cell? ⟨w.heap.size, 2, none⟩ = some (.string g) := by rw [cell_of_row _ _ _ _ _ _ HF2.out]; rfl
  have hc7 : (w.alloc (.cells #[.string i, .string f, .string g, .slice A n c, .slice A2 n2 c2] 59 (0, 0))).cell? ⟨w.heap.size, 3, none⟩ = some (.slice A n c) := by rw [cell_of_row _ _ _ _ _ _ HF2.out]; rfl
  have hc8 : (w.alloc (.cells #[.string i, .string f, .string g, .slice A n c, .slice A2 n2 c2] 59 (0, 0))).cell? ⟨w.heap.size, 4, none⟩ = some (.slice A2 n2 c2) := by rw [cell_of_row _ _ _ _ _ _ HF2.out]; rfl
  go_wp2_with fail
  clear hc4 hc5 hc6 hc7 hc8
  refine (HFW.out (w.alloc (.cells #[.string i, .string f, .string g, .slice A n c, .slice A2 n2 c2] 59 (0, 0))) (H.out.below HB3.out)).mono ?_
  rintro e w1 ⟨b, rfl, _, hb1⟩
  have HF9 := Lib.hid (blk_below HF2.out hb1)
  have HB10 := Lib.hid (HB3.out.trans (hb1.mono (by have := HB3.out.size; simp at this ⊢ <;> omega)))
  clear hb1 HB3 HF2
  cases b with
  | false =>
    go_wp2_with fail
    refine (awake25 w1).mono ?_
    rintro e w2 ⟨rfl, hb2⟩
    have HF11 := Lib.hid (blk_below HF9.out hb2)
    have HB12 := Lib.hid (HB10.out.trans (hb2.mono HB10.out.size))
    clear hb2 HB10 HF9
    go_wp2_with fail
    go_ret
    exact ⟨rfl, HB12.out⟩
  | true =>
    have hc11 : w1.cell? ⟨w.heap.size, 0, none⟩ = some (.string i) := by rw [cell_of_row _ _ _ _ _ _ HF9.out]; rfl
    have hc12 : w1.cell? ⟨w.heap.size, 1, none⟩ = some (.string f) := by rw [cell_of_row _ _ _ _ _ _ HF9.out]; rfl
    have hc13 : w1.cell? ⟨w.heap.size, 2, none⟩ = some (.string g) := by rw [cell_of_row _ _ _ _ _ _ HF9.out]; rfl
    have hc14 : w1.cell? ⟨w.heap.size, 3, none⟩ = some (.slice A n c) := by rw [cell_of_row _ _ _ _ _ _ HF9.out]; rfl
    have hc15 : w1.cell? ⟨w.heap.size, 4, none⟩ = some (.slice A2 n2 c2) := by rw [cell_of_row _ _ _ _ _ _ HF9.out]; rfl
    go_wp2_with fail
    clear hc11 hc12 hc13 hc14 hc15
    refine (HP.out w1 (H.out.below HB10.out)).mono ?_
    rintro e w2 ⟨rfl, hb2⟩
    have HF16 := Lib.hid (blk_below HF9.out hb2)
    have HB17 := Lib.hid (HB10.out.trans (hb2.mono HB10.out.size))
    clear hb2 HB10 HF9
    have hc18 : w2.cell? ⟨w.heap.size, 0, none⟩ = some (.string i) := by rw [cell_of_row _ _ _ _ _ _ HF16.out]; rfl
    have hc19 : w2.cell? ⟨w.heap.size, 1, none⟩ = some (.string f) := by rw [cell_of_row _ _ _ _ _ _ HF16.out]; rfl
    have hc20 : w2.cell? ⟨w.heap.size, 2, none⟩ = some (.string g) := by rw [cell_of_row _ _ _ _ _ _ HF16.out]; rfl
    have hc21 : w2.cell? ⟨w.heap.size, 3, none⟩ = some (.slice A n c) := by rw [cell_of_row _ _ _ _ _ _ HF16.out]; rfl
    have hc22 : w2.cell? ⟨w.heap.size, 4, none⟩ = some (.slice A2 n2 c2) := by rw [cell_of_row _ _ _ _ _ _ HF16.out]; rfl
    go_wp2_with fail
    clear hc18 hc19 hc20 hc21 hc22
    refine (HRP.out w2 (H.out.below HB17.out)).mono ?_
    rintro e w3 ⟨rfl, hb3⟩
    have HF23 := Lib.hid (blk_below HF16.out hb3)
    have HB24 := Lib.hid (HB17.out.trans (hb3.mono HB17.out.size))
    clear hb3 HB17 HF16
    have hc25 : w3.cell? ⟨w.heap.size, 0, none⟩ = some (.string i) := by rw [cell_of_row _ _ _ _ _ _ HF23.out]; rfl
    have hc26 : w3.cell? ⟨w.heap.size, 1, none⟩ = some (.string f) := by rw [cell_of_row _ _ _ _ _ _ HF23.out]; rfl
    have hc27 : w3.cell? ⟨w.heap.size, 2, none⟩ = some (.string g) := by rw [cell_of_row _ _ _ _ _ _ HF23.out]; rfl
    have hc28 : w3.cell? ⟨w.heap.size, 3, none⟩ = some (.slice A n c) := by rw [cell_of_row _ _ _ _ _ _ HF23.out]; rfl
    have hc29 : w3.cell? ⟨w.heap.size, 4, none⟩ = some (.slice A2 n2 c2) := by rw [cell_of_row _ _ _ _ _ _ HF23.out]; rfl
    go_wp2_with fail
    clear hc25 hc26 hc27 hc28 hc29
    refine (HR.out w3 (H.out.below HB24.out)).mono ?_
    rintro e w4 ⟨rfl, hb4⟩
    have HF30 := Lib.hid (blk_below HF23.out hb4)
    have HB31 := Lib.hid (HB24.out.trans (hb4.mono HB24.out.size))
    clear hb4 HB24 HF23
    have hc32 : w4.cell? ⟨w.heap.size, 0, none⟩ = some (.string i) := by rw [cell_of_row _ _ _ _ _ _ HF30.out]; rfl
    have hc33 : w4.cell? ⟨w.heap.size, 1, none⟩ = some (.string f) := by rw [cell_of_row _ _ _ _ _ _ HF30.out]; rfl
    have hc34 : w4.cell? ⟨w.heap.size, 2, none⟩ = some (.string g) := by rw [cell_of_row _ _ _ _ _ _ HF30.out]; rfl
    have hc35 : w4.cell? ⟨w.heap.size, 3, none⟩ = some (.slice A n c) := by rw [cell_of_row _ _ _ _ _ _ HF30.out]; rfl
    have hc36 : w4.cell? ⟨w.heap.size, 4, none⟩ = some (.slice A2 n2 c2) := by rw [cell_of_row _ _ _ _ _ _ HF30.out]; rfl
    go_wp2_with fail
    clear hc32 hc33 hc34 hc35 hc36
    refine (HC.out w4 (H.out.below HB31.out)).mono ?_
    rintro e w5 ⟨rfl, hb5⟩
    have HF37 := Lib.hid (blk_below HF30.out hb5)
    have HB38 := Lib.hid (HB31.out.trans (hb5.mono HB31.out.size))
    clear hb5 HB31 HF30
    go_wp2_with fail
    refine (awake25 w5).mono ?_
    rintro e w6 ⟨rfl, hb6⟩
    have HF39 := Lib.hid (blk_below HF37.out hb6)
    have HB40 := Lib.hid (HB38.out.trans (hb6.mono HB38.out.size))
    clear hb6 HB38 HF37
    go_wp2_with fail
    go_ret
    exact ⟨rfl, HB40.out⟩
end Go.Proofs.Ytdjjabjegmbmaaa.LElemEdges
