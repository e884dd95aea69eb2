/- The walk of ElemNodes over this translation. Conditions: texts that are no longer than a text may be; numbers that are ones. -/
import Derived.Test.YtdjjabjegmbmaaaAf
namespace Go.Proofs.Ytdjjabjegmbmaaa.LElemNodes
open Go.RowKit Vi

set_option maxRecDepth 100000 in
set_option maxHeartbeats 4000000 in
theorem walk (i : ByteArray) (A A2 : Option Addr) (n c n2 c2 : Nat) (ss : List ByteArray) (ps : List Pr) (w : World) (h : LP w A n ss A2 n2 ps) (k : LOk n ss n2 ps) (ki : IntsOk ps) (hi : i.size ≤ maxLen) :
    Calls Try.prog 5 #[.agg #[.string i, .slice A n c, .slice A2 n2 c2]] w fun e w' => e = .returned (.bool true) ∧ Below w.heap.size w w' := by
  have H := Lib.hid h
  by_cases li : 100 < i.size
  · have di : decide ((100 : Int) < (i.size : Int)) = true := decide_eq_true (by omega)
    have HB1 := Lib.hid (Below.refl w.heap.size w)
    go_enter Try.func5, Try.ntmps5
    have HF2 := Lib.hid (blk_new w (.cells #[.string i, .slice A n c, .slice A2 n2 c2] 48 (0, 0)))
    have HB3 := Lib.hid (HB1.out.alloc HB1.out.size (.cells #[.string i, .slice A n c, .slice A2 n2 c2] 48 (0, 0)))
    clear HB1
    have hc4 : (w.alloc (.cells #[.string i, .slice A n c, .slice A2 n2 c2] 48 (0, 0))).cell? ⟨w.heap.size, 0, none⟩ = some (.string i) := by rw [cell_of_row _ _ _ _ _ _ HF2.out]; rfl
    have hc5 : (w.alloc (.cells #[.string i, .slice A n c, .slice A2 n2 c2] 48 (0, 0))).cell? ⟨w.heap.size, 1, none⟩ = some (.slice A n c) := by rw [cell_of_row _ _ _ _ _ _ HF2.out]; rfl
    have hc6 : (w.alloc (.cells #[.string i, .slice A n c, .slice A2 n2 c2] 48 (0, 0))).cell? ⟨w.heap.size, 2, none⟩ = some (.slice A2 n2 c2) := by rw [cell_of_row _ _ _ _ _ _ HF2.out]; rfl
    go_wp2_with fail
    clear hc4 hc5 hc6
    refine (awake25 (w.alloc (.cells #[.string i, .slice A n c, .slice A2 n2 c2] 48 (0, 0)))).mono ?_
    rintro e w1 ⟨rfl, hb1⟩
    have HF7 := Lib.hid (blk_below HF2.out hb1)
    have HB8 := Lib.hid (HB3.out.trans (hb1.mono HB3.out.size))
    clear hb1 HB3 HF2
    go_wp2_with fail
    go_ret
    exact ⟨rfl, HB8.out⟩
  have di : decide ((100 : Int) < (i.size : Int)) = false := decide_eq_false (by omega)
  have HFW := Lib.hid (fun (W : World) (q : LP W A n ss A2 n2 ps) => few25_any A A2 n c n2 c2 ss ps W q k)
  obtain ⟨z, hz⟩ : ∃ z, z = ndW i ss ps := ⟨_, rfl⟩
  obtain ⟨T, HP, HRP⟩ : ∃ T, Hid (∀ (W : World) (q : LP W A n ss A2 n2 ps), Calls Try.prog 26 #[.agg #[.string i, .slice A n c, .slice A2 n2 c2]] W fun e w' => e = .returned (.tuple #[.string T, .int .i64 z]) ∧ Below W.heap.size W w') ∧
      Hid (∀ (W : World) (q : LP W A n ss A2 n2 ps), Calls Try.prog 27 #[.agg #[.string i, .slice A n c, .slice A2 n2 c2]] W fun e w' => e = .returned (.string T) ∧ Below W.heap.size W w') := by
    by_cases hzz : z = 0
    · have hz' : ndW i ss ps = 0 := by rw [← hz]; exact hzz
      exact ⟨_, Lib.hid (fun W q => by rw [hzz]; exact pnode_yes i A A2 n c n2 c2 ss ps W q k hi hz' ki), Lib.hid (fun W q => rpnode_yes i A A2 n c n2 c2 ss ps W q k hi hz' ki)⟩
    · have hz' : ndW i ss ps ≠ 0 := by rw [← hz]; exact hzz
      exact ⟨_, Lib.hid (fun W q => by rw [hz]; exact pnode_no i A A2 n c n2 c2 ss ps W q k hi hz'), Lib.hid (fun W q => rpnode_no i A A2 n c n2 c2 ss ps W q k hi hz')⟩
  have HC := Lib.hid (fun (W : World) (q : LP W A n ss A2 n2 ps) => cnode_any i A A2 n c n2 c2 ss ps W q k hi)
  have HR := Lib.hid (fun (W : World) (q : LP W A n ss A2 n2 ps) => rnode_any i A A2 n c n2 c2 ss ps W q k hi)
  have hm2 := k.n2
  unfold maxLen at hm2
  have HCP := Lib.hid (fun (W : World) (q : RdX prC 4 W A2 n2 ps) => cprops_any A2 n2 c2 ps W q (by omega) k.p)
  have HRS := Lib.hid (fun (W : World) (q : RdX prC 4 W A2 n2 ps) => rprops_any A2 n2 c2 ps W q (by omega) k.p)
  obtain ⟨y, hy⟩ : ∃ y, y = prW ps := ⟨_, rfl⟩
  rw [← hy] at HCP HRS
  clear hy hm2
  rw [← hz] at HC HR
  have hst : (T.toList == T.toList) = true := by simp
  clear h k ki hz 
  have HB1 := Lib.hid (Below.refl w.heap.size w)
  go_enter Try.func5, Try.ntmps5
  have HF2 := Lib.hid (blk_new w (.cells #[.string i, .slice A n c, .slice A2 n2 c2] 48 (0, 0)))
  have HB3 := Lib.hid (HB1.out.alloc HB1.out.size (.cells #[.string i, .slice A n c, .slice A2 n2 c2] 48 (0, 0)))
  clear HB1
  have hc4 : (w.alloc (.cells #[.string i, .slice A n c, .slice A2 n2 c2] 48 (0, 0))).cell? ⟨w.heap.size, 0, none⟩ = some (.string i) := by rw [cell_of_row _ _ _ _ _ _ HF2.out]; rfl
  have hc5 : (w.alloc (.cells #[.string i, .slice A n c, .slice A2 n2 c2] 48 (0, 0))).cell? ⟨w.heap.size, 1, none⟩ = some (.slice A n c) := by rw [cell_of_row _ _ _ _ _ _ HF2.out]; rfl
  have hc6 : (w.alloc (.cells #[.string i, .slice A n c, .slice A2 n2 c2] 48 (0, 0))).cell? ⟨w.heap.size, 2, none⟩ = some (.slice A2 n2 c2) := by rw [cell_of_row _ _ _ _ _ _ HF2.out]; rfl
  go_wp2_with fail
  clear hc4 hc5 hc6
  refine (HFW.out (w.alloc (.cells #[.string i, .slice A n c, .slice A2 n2 c2] 48 (0, 0))) (H.out.below HB3.out)).mono ?_
  rintro e w1 ⟨b, rfl, _, hb1⟩
  have HF7 := Lib.hid (blk_below HF2.out hb1)
  have HB8 := Lib.hid (HB3.out.trans (hb1.mono (by have := HB3.out.size; simp at this ⊢ <;> omega)))
  clear hb1 HB3 HF2
  cases b with
  | false =>
    go_wp2_with fail
    refine (awake25 w1).mono ?_
    rintro e w2 ⟨rfl, hb2⟩
    have HF9 := Lib.hid (blk_below HF7.out hb2)
    have HB10 := Lib.hid (HB8.out.trans (hb2.mono HB8.out.size))
    clear hb2 HB8 HF7
    go_wp2_with fail
    go_ret
    exact ⟨rfl, HB10.out⟩
  | true =>
    have hc9 : w1.cell? ⟨w.heap.size, 0, none⟩ = some (.string i) := by rw [cell_of_row _ _ _ _ _ _ HF7.out]; rfl
    have hc10 : w1.cell? ⟨w.heap.size, 1, none⟩ = some (.slice A n c) := by rw [cell_of_row _ _ _ _ _ _ HF7.out]; rfl
    have hc11 : w1.cell? ⟨w.heap.size, 2, none⟩ = some (.slice A2 n2 c2) := by rw [cell_of_row _ _ _ _ _ _ HF7.out]; rfl
    go_wp2_with fail
    clear hc9 hc10 hc11
    refine (HP.out w1 (H.out.below HB8.out)).mono ?_
    rintro e w2 ⟨rfl, hb2⟩
    have HF12 := Lib.hid (blk_below HF7.out hb2)
    have HB13 := Lib.hid (HB8.out.trans (hb2.mono HB8.out.size))
    clear hb2 HB8 HF7
    have hc14 : w2.cell? ⟨w.heap.size, 0, none⟩ = some (.string i) := by rw [cell_of_row _ _ _ _ _ _ HF12.out]; rfl
    have hc15 : w2.cell? ⟨w.heap.size, 1, none⟩ = some (.slice A n c) := by rw [cell_of_row _ _ _ _ _ _ HF12.out]; rfl
    have hc16 : w2.cell? ⟨w.heap.size, 2, none⟩ = some (.slice A2 n2 c2) := by rw [cell_of_row _ _ _ _ _ _ HF12.out]; rfl
    go_wp2_with fail
    have hr17 := fun d os => cell_regrown hc14 d os
    have hr18 := fun d os => cell_regrown hc15 d os
    have hr19 := fun d os => cell_regrown hc16 d os
    refine wp_region_quiet_below (by kernel_rfl) (by kernel_rfl) ?_
    repeat (any_goals (first | go_big_quiet_step ((first | (go_at_call 27; with_reducible exact Calls.regrown_of (HRP.out _ (H.out.below (HB13.out.trans ((below_regrown _ _ _).mono HB13.out.size))))) | (go_at_call 28; with_reducible exact Calls.regrown_of (HR.out _ (H.out.below (HB13.out.trans ((below_regrown _ _ _).mono HB13.out.size))))) | (go_at_call 29; with_reducible exact Calls.regrown_of (HC.out _ (H.out.below (HB13.out.trans ((below_regrown _ _ _).mono HB13.out.size))))) | (go_at_call 30; with_reducible exact Calls.regrown_of (HCP.out _ (H.out.p.below (HB13.out.trans ((below_regrown _ _ _).mono HB13.out.size))))) | (go_at_call 31; with_reducible exact Calls.regrown_of (HRS.out _ (H.out.p.below (HB13.out.trans ((below_regrown _ _ _).mono HB13.out.size))))) | (go_at_call 25; with_reducible exact Calls.regrown_of (awake25 _)))) | quiet_step ((first | (go_at_call 27; with_reducible exact Calls.regrown_of (HRP.out _ (H.out.below (HB13.out.trans ((below_regrown _ _ _).mono HB13.out.size))))) | (go_at_call 28; with_reducible exact Calls.regrown_of (HR.out _ (H.out.below (HB13.out.trans ((below_regrown _ _ _).mono HB13.out.size))))) | (go_at_call 29; with_reducible exact Calls.regrown_of (HC.out _ (H.out.below (HB13.out.trans ((below_regrown _ _ _).mono HB13.out.size))))) | (go_at_call 30; with_reducible exact Calls.regrown_of (HCP.out _ (H.out.p.below (HB13.out.trans ((below_regrown _ _ _).mono HB13.out.size))))) | (go_at_call 31; with_reducible exact Calls.regrown_of (HRS.out _ (H.out.p.below (HB13.out.trans ((below_regrown _ _ _).mono HB13.out.size))))) | (go_at_call 25; with_reducible exact Calls.regrown_of (awake25 _))))))
    refine wpQuiet_nil ?_
    intro w3 hw3
    have hb3 := below_anyY hw3
    clear hw3 hr17 hr18 hr19
    clear hc14 hc15 hc16
    have HF20 := Lib.hid (blk_below HF12.out hb3)
    have HB21 := Lib.hid (HB13.out.trans (hb3.mono HB13.out.size))
    clear hb3 HB13 HF12
    go_wp2_with fail
    go_ret
    exact ⟨rfl, HB21.out⟩
end Go.Proofs.Ytdjjabjegmbmaaa.LElemNodes
