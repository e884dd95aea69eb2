/- The example of layer 26. No condition. -/
import Derived.Test.YtagenkofoacajaaGreatGQe
import Derived.Test.YtagenkofoacajaaGreatTq
import Derived.Deep.DeepCutAuto
import Derived.Maps.Own
import Derived.StringKeys
namespace Go.Proofs.YtagenkofoacajaaGreat
open Go.RowKit Vi Go.WideMaps Go.Maps

set_option maxRecDepth 100000 in
theorem ofedge_no (k : Int) (w : World) (e7 : (k == 7) = false) (e8 : (k == 8) = false) (e11 : (k == 11) = false) (e12 : (k == 12) = false) : Calls Tryz.prog 89 #[.int .i64 k] w fun e w' => e = .returned (.bool false) ∧ w = w' := by
  go_enter Tryz.func89, Tryz.ntmps89
  go_wp2_with fail
  go_ret
  exact ⟨rfl, rfl⟩
set_option maxRecDepth 100000 in
theorem ofedge_7 (w : World) : Calls Tryz.prog 89 #[.int .i64 7] w fun e w' => e = .returned (.bool true) ∧ w = w' := by
  go_enter Tryz.func89, Tryz.ntmps89
  go_wp2_with fail
  go_ret
  exact ⟨rfl, rfl⟩
set_option maxRecDepth 100000 in
theorem ofedge_8 (w : World) : Calls Tryz.prog 89 #[.int .i64 8] w fun e w' => e = .returned (.bool true) ∧ w = w' := by
  go_enter Tryz.func89, Tryz.ntmps89
  go_wp2_with fail
  go_ret
  exact ⟨rfl, rfl⟩
set_option maxRecDepth 100000 in
theorem ofedge_11 (w : World) : Calls Tryz.prog 89 #[.int .i64 11] w fun e w' => e = .returned (.bool true) ∧ w = w' := by
  go_enter Tryz.func89, Tryz.ntmps89
  go_wp2_with fail
  go_ret
  exact ⟨rfl, rfl⟩
set_option maxRecDepth 100000 in
theorem ofedge_12 (w : World) : Calls Tryz.prog 89 #[.int .i64 12] w fun e w' => e = .returned (.bool true) ∧ w = w' := by
  go_enter Tryz.func89, Tryz.ntmps89
  go_wp2_with fail
  go_ret
  exact ⟨rfl, rfl⟩
set_option maxRecDepth 100000 in
theorem gnodes0 (m : Value) (w : World) : Calls Tryz.prog 79 #[.slice none 0 0, m] w fun e w' => e = .returned (.int .i64 0) ∧ w = w' := by
  go_enter Tryz.func79, Tryz.ntmps79
  go_wp2_with fail
  go_loop [11] (fun i => i = .int .i64 0) (fun _ => 0)
  case atStart => exact rfl
  case round =>
    subst hrel
    go_wp2_with fail
    go_ret
    exact ⟨rfl, rfl⟩
set_option maxRecDepth 100000 in
theorem gedges00 (m : Value) (w : World) : Calls Tryz.prog 80 #[.slice none 0 0, m] w fun e w' => e = .returned (.int .i64 0) ∧ w = w' := by
  go_enter Tryz.func80, Tryz.ntmps80
  go_wp2_with fail
  go_loop [15] (fun i => i = .int .i64 0) (fun _ => 0)
  case atStart => exact rfl
  case round =>
    subst hrel
    go_wp2_with fail
    go_ret
    exact ⟨rfl, rfl⟩
set_option maxRecDepth 100000 in
theorem npick0 (f g : Value) (w : World) : Calls Tryz.prog 40 #[.slice none 0 0, f, g] w fun e w' => e = .returned (.slice none 0 0) ∧ w = w' := by
  go_enter Tryz.func40, Tryz.ntmps40
  go_wp2_with fail
  go_loop [7, 12] (fun p i => p = .slice none 0 0 ∧ i = .int .i64 0) (fun _ _ => 0)
  case atStart => exact ⟨rfl, rfl⟩
  case round =>
    obtain ⟨rfl, rfl⟩ := hrel
    go_wp2_with fail
    go_ret
    exact ⟨rfl, rfl⟩
set_option maxRecDepth 100000 in
theorem epick0 (f g : Value) (w : World) : Calls Tryz.prog 37 #[.slice none 0 0, f, g] w fun e w' => e = .returned (.slice none 0 0) ∧ w = w' := by
  go_enter Tryz.func37, Tryz.ntmps37
  go_wp2_with fail
  go_loop [7, 12] (fun p i => p = .slice none 0 0 ∧ i = .int .i64 0) (fun _ _ => 0)
  case atStart => exact ⟨rfl, rfl⟩
  case round =>
    obtain ⟨rfl, rfl⟩ := hrel
    go_wp2_with fail
    go_ret
    exact ⟨rfl, rfl⟩
set_option maxRecDepth 100000 in
theorem nbsf0 (s : ByteArray) (f : Value) (w : World) : Calls Tryz.prog 59 #[.slice none 0 0, .string s, f] w fun e w' => e = .returned (.tuple #[.int .i64 0, .bool false]) ∧ w = w' := by
  go_enter Tryz.func59, Tryz.ntmps59
  go_wp2_with fail
  go_loop [9, 10, 11] (fun i j _ => i = .int .i64 0 ∧ j = .int .i64 0) (fun _ _ _ => 0)
  case atStart => exact ⟨rfl, rfl⟩
  case round =>
    obtain ⟨rfl, rfl⟩ := hrel
    go_wp2_with fail
    go_ret2
    exact ⟨rfl, rfl⟩
set_option maxRecDepth 100000 in
theorem ebsf0 (s : ByteArray) (f : Value) (w : World) : Calls Tryz.prog 64 #[.slice none 0 0, .string s, f] w fun e w' => e = .returned (.tuple #[.int .i64 0, .bool false]) ∧ w = w' := by
  go_enter Tryz.func64, Tryz.ntmps64
  go_wp2_with fail
  go_loop [9, 10, 11] (fun i j _ => i = .int .i64 0 ∧ j = .int .i64 0) (fun _ _ _ => 0)
  case atStart => exact ⟨rfl, rfl⟩
  case round =>
    obtain ⟨rfl, rfl⟩ := hrel
    go_wp2_with fail
    go_ret2
    exact ⟨rfl, rfl⟩
set_option maxRecDepth 100000 in
theorem nfind0 (s : ByteArray) (w : World) : Calls Tryz.prog 31 #[.slice none 0 0, .string s] w fun e w' => e = .returned (.tuple #[.int .i64 0, .bool false]) ∧ w = w' := by
  go_enter Tryz.func31, Tryz.ntmps31
  go_wp2_with fail
  refine (nbsf0 _ _ _).mono ?_
  rintro e w' ⟨rfl, rfl⟩
  go_wp2_with fail
  go_ret2
  exact ⟨rfl, rfl⟩
set_option maxRecDepth 100000 in
theorem efind0 (s : ByteArray) (w : World) : Calls Tryz.prog 33 #[.slice none 0 0, .string s] w fun e w' => e = .returned (.tuple #[.int .i64 0, .bool false]) ∧ w = w' := by
  go_enter Tryz.func33, Tryz.ntmps33
  go_wp2_with fail
  refine (ebsf0 _ _ _).mono ?_
  rintro e w' ⟨rfl, rfl⟩
  go_wp2_with fail
  go_ret2
  exact ⟨rfl, rfl⟩
set_option maxRecDepth 100000 in
theorem gcheck0 (w : World) : Calls Tryz.prog 55 #[.agg #[.slice none 0 0, .slice none 0 0]] w fun e w' => e = .returned (.int .i64 0) ∧ Below w.heap.size w w' := by
  have hmm := fun W : World => run_makeMap (P := Tryz.prog) 125 W
  have HB1 := Lib.hid (Below.refl w.heap.size w)
  go_enter Tryz.func55, Tryz.ntmps55
  have HF2 := Lib.hid (blk_new w (.cells #[.slice none 0 0, .slice none 0 0] 25 (0, 0)))
  have HB3 := Lib.hid (HB1.out.alloc HB1.out.size (.cells #[.slice none 0 0, .slice none 0 0] 25 (0, 0)))
  clear HB1
  have hc4 : (w.alloc (.cells #[.slice none 0 0, .slice none 0 0] 25 (0, 0))).cell? ⟨w.heap.size, 0, none⟩ = some (.slice none 0 0) := by rw [cell_of_row _ _ _ _ _ _ HF2.out]; rfl
  have hc5 : (w.alloc (.cells #[.slice none 0 0, .slice none 0 0] 25 (0, 0))).cell? ⟨w.heap.size, 1, none⟩ = some (.slice none 0 0) := by rw [cell_of_row _ _ _ _ _ _ HF2.out]; rfl
  have HM := Lib.hid (blk_alloc HF2.out (.map #[] 0))
  have HBM := Lib.hid (HB3.out.alloc HB3.out.size (.map #[] 0))
  have m0 : ((w.alloc (.cells #[.slice none 0 0, .slice none 0 0] 25 (0, 0))).alloc (.map #[] 0)).cell? ⟨w.heap.size, 0, none⟩ = some (.slice none 0 0) := by rw [cell_of_row _ _ _ _ _ _ HM.out]; rfl
  have m1 : ((w.alloc (.cells #[.slice none 0 0, .slice none 0 0] 25 (0, 0))).alloc (.map #[] 0)).cell? ⟨w.heap.size, 1, none⟩ = some (.slice none 0 0) := by rw [cell_of_row _ _ _ _ _ _ HM.out]; rfl
  go_wp2_with fail
  refine (gnodes0 _ _).mono ?_
  rintro e w' ⟨rfl, rfl⟩
  go_wp2_with fail
  refine (gedges00 _ _).mono ?_
  rintro e w' ⟨rfl, rfl⟩
  go_wp2_with fail
  go_ret
  exact ⟨rfl, HBM.out⟩
set_option maxRecDepth 100000 in
theorem copy0 (w : World) : Calls Tryz.prog 81 #[.agg #[.slice none 0 0, .slice none 0 0]] w fun e w' => e = .returned (.agg #[.slice none 0 0, .slice none 0 0]) ∧ Below w.heap.size w w' := by
  have HB1 := Lib.hid (Below.refl w.heap.size w)
  go_enter Tryz.func81, Tryz.ntmps81
  have HF2 := Lib.hid (blk_new w (.cells #[.slice none 0 0, .slice none 0 0] 25 (0, 0)))
  have HB3 := Lib.hid (HB1.out.alloc HB1.out.size (.cells #[.slice none 0 0, .slice none 0 0] 25 (0, 0)))
  clear HB1
  have HF4 := Lib.hid (blk_alloc HF2.out (.cells #[.slice none 0 0, .slice none 0 0] 25 (0, 0)))
  clear HF2
  have HF5 : Hid (((w.alloc (.cells #[.slice none 0 0, .slice none 0 0] 25 (0, 0))).alloc (.cells #[.slice none 0 0, .slice none 0 0] 25 (0, 0))).heap[w.heap.size + 1]? = some (.cells #[.slice none 0 0, .slice none 0 0] 25 (0, 0))) := Lib.hid (blk_newN (W := (w.alloc (.cells #[.slice none 0 0, .slice none 0 0] 25 (0, 0)))) (o := (.cells #[.slice none 0 0, .slice none 0 0] 25 (0, 0))) (by simp))
  have HB6 := Lib.hid (HB3.out.alloc (by have := HB3.out.size; simp at this ⊢ <;> omega) (.cells #[.slice none 0 0, .slice none 0 0] 25 (0, 0)))
  clear HB3
  have hc7 : ((w.alloc (.cells #[.slice none 0 0, .slice none 0 0] 25 (0, 0))).alloc (.cells #[.slice none 0 0, .slice none 0 0] 25 (0, 0))).cell? ⟨w.heap.size, 0, none⟩ = some (.slice none 0 0) := by rw [cell_of_row _ _ _ _ _ _ HF4.out]; rfl
  have hc8 : ((w.alloc (.cells #[.slice none 0 0, .slice none 0 0] 25 (0, 0))).alloc (.cells #[.slice none 0 0, .slice none 0 0] 25 (0, 0))).cell? ⟨w.heap.size, 1, none⟩ = some (.slice none 0 0) := by rw [cell_of_row _ _ _ _ _ _ HF4.out]; rfl
  go_wp2_with fail
  have hr9 := fun d os => cell_regrown hc7 d os
  have hr10 := fun d os => cell_regrown hc8 d os
  refine wp_region_quiet_tail 7 (by kernel_rfl) (by kernel_rfl) ?_
  simp only [List.take_succ_cons, List.take_zero, List.drop_succ_cons, List.drop_zero]
  repeat (any_goals (first | go_big_quiet_step ((first | (go_at_call 40; with_reducible exact Calls.regrown_of (of_same (npick0 _ _ _))) | (go_at_call 37; with_reducible exact Calls.regrown_of (of_same (epick0 _ _ _))))) | quiet_step ((first | (go_at_call 40; with_reducible exact Calls.regrown_of (of_same (npick0 _ _ _))) | (go_at_call 37; with_reducible exact Calls.regrown_of (of_same (epick0 _ _ _)))))))
  refine wpQuiet_nil ?_
  intro w1 hw1
  have hb1 := below_anyY hw1
  clear hw1 hr9 hr10
  clear hc7 hc8
  have HF11 := Lib.hid (blk_below HF4.out hb1)
  have HF12 := Lib.hid (blk_below HF5.out hb1)
  have HB13 := Lib.hid (HB6.out.trans (hb1.mono HB6.out.size))
  clear hb1 HB6 HF4 HF5
  have hc14 : w1.cell? ⟨w.heap.size + 1, 0, none⟩ = some (.slice none 0 0) := by rw [cell_of_row _ _ _ _ _ _ HF12.out]; rfl
  have hc15 : w1.cell? ⟨w.heap.size + 1, 1, none⟩ = some (.slice none 0 0) := by rw [cell_of_row _ _ _ _ _ _ HF12.out]; rfl
  have hz16 : w1.frozen? ⟨w.heap.size + 1, 0, none⟩ = false := frozen_of_row _ _ _ _ _ HF12.out
  have hz17 : w1.frozen? ⟨w.heap.size + 1, 1, none⟩ = false := frozen_of_row _ _ _ _ _ HF12.out
  go_wp2_with fail
  refine bodyPost_ret (v := .agg #[.slice none 0 0, .slice none 0 0]) (by simp [results, Tryz.results81, go_sem, *]) rfl ?_
  exact ⟨rfl, (HB13.out.setCell (p := ⟨w.heap.size + 1, 0, none⟩) (by simp) _).setCell (p := ⟨w.heap.size + 1, 1, none⟩) (by simp) _⟩
def BegP (w : World) (e : Ending) (w' : World) : Prop := ∃ (p : Nat) (m : Value), e = .returned (.pointer (some ⟨p, 0, none⟩)) ∧ w'.heap[p]? = some (.cells #[.slice none 0 0, .slice none 0 0, m] 101 (0, 0)) ∧ Below w.heap.size w w'
set_option maxRecDepth 100000 in
theorem begin0 (w : World) : Calls Tryz.prog 56 #[.agg #[.slice none 0 0, .slice none 0 0]] w (BegP w) := by
  have hmm := fun W : World => run_makeMap (P := Tryz.prog) 82 W
  have HB1 := Lib.hid (Below.refl w.heap.size w)
  go_enter Tryz.func56, Tryz.ntmps56
  have HF2 := Lib.hid (blk_new w (.cells #[.slice none 0 0, .slice none 0 0] 25 (0, 0)))
  have HB3 := Lib.hid (HB1.out.alloc HB1.out.size (.cells #[.slice none 0 0, .slice none 0 0] 25 (0, 0)))
  clear HB1
  have hc4 : (w.alloc (.cells #[.slice none 0 0, .slice none 0 0] 25 (0, 0))).cell? ⟨w.heap.size, 0, none⟩ = some (.slice none 0 0) := by rw [cell_of_row _ _ _ _ _ _ HF2.out]; rfl
  have hc5 : (w.alloc (.cells #[.slice none 0 0, .slice none 0 0] 25 (0, 0))).cell? ⟨w.heap.size, 1, none⟩ = some (.slice none 0 0) := by rw [cell_of_row _ _ _ _ _ _ HF2.out]; rfl
  go_wp2_with fail
  clear hc4 hc5
  refine (copy0 (w.alloc (.cells #[.slice none 0 0, .slice none 0 0] 25 (0, 0)))).mono ?_
  rintro e w1 ⟨rfl, hb1⟩
  have HF6 := Lib.hid (blk_below HF2.out hb1)
  have HB7 := Lib.hid (HB3.out.trans (hb1.mono HB3.out.size))
  clear hb1 HB3 HF2
  have HBM := Lib.hid (HB7.out.alloc HB7.out.size (.map #[] 0))
  have HW := Lib.hid (show ((w1.alloc (.map #[] 0)).alloc (.cells #[.slice none 0 0, .slice none 0 0, .map (some w1.heap.size)] 101 (0, 0))).heap[w1.heap.size + 1]? = some (.cells #[.slice none 0 0, .slice none 0 0, .map (some w1.heap.size)] 101 (0, 0)) from blk_newN (by simp))
  have HBW := Lib.hid (HBM.out.alloc (by have := HB7.out.size; simp at this ⊢ <;> omega) (.cells #[.slice none 0 0, .slice none 0 0, .map (some w1.heap.size)] 101 (0, 0)))
  have k0 : ((w1.alloc (.map #[] 0)).alloc (.cells #[.slice none 0 0, .slice none 0 0, .map (some w1.heap.size)] 101 (0, 0))).cell? ⟨w1.heap.size + 1, 0, none⟩ = some (.slice none 0 0) := by rw [cell_of_row _ _ _ _ _ _ HW.out]; rfl
  have k1 : ((w1.alloc (.map #[] 0)).alloc (.cells #[.slice none 0 0, .slice none 0 0, .map (some w1.heap.size)] 101 (0, 0))).cell? ⟨w1.heap.size + 1, 1, none⟩ = some (.slice none 0 0) := by rw [cell_of_row _ _ _ _ _ _ HW.out]; rfl
  go_wp2_with fail
  clear k0 k1
  go_loop [17] (fun i => i = .int .i64 0) (fun _ => 0)
  case atStart => rfl
  case round =>
    subst hrel
    go_wp2_with fail
    go_ret
    exact ⟨_, _, rfl, HW.out, HBW.out⟩
set_option maxRecDepth 100000 in
theorem does3 (p : Nat) (w : World) : Calls Tryz.prog 58 #[.pointer (some ⟨p, 0, none⟩), .int .i64 3] w fun e w' => e = .returned (.func (.func 87) #[.pointer (some ⟨p, 0, none⟩)] #[]) ∧ w = w' := by
  go_enter Tryz.func58, Tryz.ntmps58
  go_wp2_with fail
  go_ret
  exact ⟨rfl, rfl⟩
set_option maxRecDepth 100000 in
set_option maxHeartbeats 1000000 in
theorem addedge0 (p : Nat) (m : Value) (w : World) (h : w.heap[p]? = some (.cells #[.slice none 0 0, .slice none 0 0, m] 101 (0, 0))) :
    Calls Tryz.prog 87 #[.pointer (some ⟨p, 0, none⟩), .agg #[.int .i64 3, .string ⟨#[120]⟩, .string ⟨#[97]⟩, .string ⟨#[98]⟩, .string ⟨#[]⟩, .int .i64 0, .int .i64 0, .string ⟨#[]⟩]] w fun e w' => e = .returned (.int .i64 9) ∧ Below w.heap.size w w' := by
  have HP := Lib.hid h
  clear h
  have HB1 := Lib.hid (Below.refl w.heap.size w)
  go_enter Tryz.func87, Tryz.ntmps87
  have HF2 := Lib.hid (blk_alloc HP.out (.cells #[.int .i64 3, .string ⟨#[120]⟩, .string ⟨#[97]⟩, .string ⟨#[98]⟩, .string ⟨#[]⟩, .int .i64 0, .int .i64 0, .string ⟨#[]⟩] 63 (0, 0)))
  have HF3 := Lib.hid (blk_new w (.cells #[.int .i64 3, .string ⟨#[120]⟩, .string ⟨#[97]⟩, .string ⟨#[98]⟩, .string ⟨#[]⟩, .int .i64 0, .int .i64 0, .string ⟨#[]⟩] 63 (0, 0)))
  have HB4 := Lib.hid (HB1.out.alloc HB1.out.size (.cells #[.int .i64 3, .string ⟨#[120]⟩, .string ⟨#[97]⟩, .string ⟨#[98]⟩, .string ⟨#[]⟩, .int .i64 0, .int .i64 0, .string ⟨#[]⟩] 63 (0, 0)))
  clear HB1
  have hc5 : (w.alloc (.cells #[.int .i64 3, .string ⟨#[120]⟩, .string ⟨#[97]⟩, .string ⟨#[98]⟩, .string ⟨#[]⟩, .int .i64 0, .int .i64 0, .string ⟨#[]⟩] 63 (0, 0))).cell? ⟨p, 0, none⟩ = some (.slice none 0 0) := by rw [cell_of_row _ _ _ _ _ _ HF2.out]; rfl
  have hc6 : w.cell? ⟨p, 0, none⟩ = some (.slice none 0 0) := by rw [cell_of_row _ _ _ _ _ _ HP.out]; rfl
  have hc7 : (w.alloc (.cells #[.int .i64 3, .string ⟨#[120]⟩, .string ⟨#[97]⟩, .string ⟨#[98]⟩, .string ⟨#[]⟩, .int .i64 0, .int .i64 0, .string ⟨#[]⟩] 63 (0, 0))).cell? ⟨p, 1, none⟩ = some (.slice none 0 0) := by rw [cell_of_row _ _ _ _ _ _ HF2.out]; rfl
  have hc8 : w.cell? ⟨p, 1, none⟩ = some (.slice none 0 0) := by rw [cell_of_row _ _ _ _ _ _ HP.out]; rfl
  have hl9 : p < w.heap.size := lt_of_block HP.out
  have hl10 : ¬ p = w.heap.size := by omega
  have hc11 : (w.alloc (.cells #[.int .i64 3, .string ⟨#[120]⟩, .string ⟨#[97]⟩, .string ⟨#[98]⟩, .string ⟨#[]⟩, .int .i64 0, .int .i64 0, .string ⟨#[]⟩] 63 (0, 0))).cell? ⟨w.heap.size, 1, none⟩ = some (.string ⟨#[120]⟩) := by rw [cell_of_row _ _ _ _ _ _ HF3.out]; rfl
  go_wp2_with fail
  have hr12 := fun d os => cell_regrown hc5 d os
  have hr13 := fun d os => cell_regrown hc6 d os
  have hr14 := fun d os => cell_regrown hc7 d os
  have hr15 := fun d os => cell_regrown hc8 d os
  have hr16 := fun d os => cell_regrown hc11 d os
  refine wp_region_quiet_below (by kernel_rfl) (by kernel_rfl) ?_
  repeat (any_goals (first | go_big_quiet_step ((go_at_call 33; with_reducible exact Calls.regrown_of (of_same (efind0 _ _)))) | quiet_step ((go_at_call 33; with_reducible exact Calls.regrown_of (of_same (efind0 _ _))))))
  refine wpQuiet_nil ?_
  intro w1 hw1
  have hb1 := below_anyY hw1
  clear hw1 hr12 hr13 hr14 hr15 hr16
  clear hc5 hc6 hc7 hc8 hl9 hl10 hc11
  have HF17 := Lib.hid (blk_below HF2.out hb1)
  have HF18 := Lib.hid (blk_below HF3.out hb1)
  have HB19 := Lib.hid (HB4.out.trans (hb1.mono HB4.out.size))
  clear hb1 HB4 HF2 HP HF3
  have hc20 : w1.cell? ⟨p, 0, none⟩ = some (.slice none 0 0) := by rw [cell_of_row _ _ _ _ _ _ HF17.out]; rfl
  have hc21 : w1.cell? ⟨p, 1, none⟩ = some (.slice none 0 0) := by rw [cell_of_row _ _ _ _ _ _ HF17.out]; rfl
  have hc22 : w1.cell? ⟨w.heap.size, 2, none⟩ = some (.string ⟨#[97]⟩) := by rw [cell_of_row _ _ _ _ _ _ HF18.out]; rfl
  go_wp2_with fail
  have hr23 := fun d os => cell_regrown hc20 d os
  have hr24 := fun d os => cell_regrown hc21 d os
  have hr25 := fun d os => cell_regrown hc22 d os
  refine wp_region_quiet_below (by kernel_rfl) (by kernel_rfl) ?_
  repeat (any_goals (first | go_big_quiet_step ((go_at_call 31; with_reducible exact Calls.regrown_of (of_same (nfind0 _ _)))) | quiet_step ((go_at_call 31; with_reducible exact Calls.regrown_of (of_same (nfind0 _ _))))))
  refine wpQuiet_nil ?_
  intro w2 hw2
  have hb2 := below_anyY hw2
  clear hw2 hr23 hr24 hr25
  clear hc20 hc21 hc22
  have HF26 := Lib.hid (blk_below HF17.out hb2)
  have HF27 := Lib.hid (blk_below HF18.out hb2)
  have HB28 := Lib.hid (HB19.out.trans (hb2.mono HB19.out.size))
  clear hb2 HB19 HF17 HF18
  have hc29 : w2.cell? ⟨p, 0, none⟩ = some (.slice none 0 0) := by rw [cell_of_row _ _ _ _ _ _ HF26.out]; rfl
  have hc30 : w2.cell? ⟨p, 1, none⟩ = some (.slice none 0 0) := by rw [cell_of_row _ _ _ _ _ _ HF26.out]; rfl
  have hc31 : w2.cell? ⟨w.heap.size, 3, none⟩ = some (.string ⟨#[98]⟩) := by rw [cell_of_row _ _ _ _ _ _ HF27.out]; rfl
  go_wp2_with fail
  have hr32 := fun d os => cell_regrown hc29 d os
  have hr33 := fun d os => cell_regrown hc30 d os
  have hr34 := fun d os => cell_regrown hc31 d os
  refine wp_region_quiet_below (by kernel_rfl) (by kernel_rfl) ?_
  repeat (any_goals (first | go_big_quiet_step ((go_at_call 31; with_reducible exact Calls.regrown_of (of_same (nfind0 _ _)))) | quiet_step ((go_at_call 31; with_reducible exact Calls.regrown_of (of_same (nfind0 _ _))))))
  refine wpQuiet_nil ?_
  intro w3 hw3
  have hb3 := below_anyY hw3
  clear hw3 hr32 hr33 hr34
  clear hc29 hc30 hc31
  have HF35 := Lib.hid (blk_below HF26.out hb3)
  have HF36 := Lib.hid (blk_below HF27.out hb3)
  have HB37 := Lib.hid (HB28.out.trans (hb3.mono HB28.out.size))
  clear hb3 HB28 HF26 HF27
  go_wp2_with fail
  go_ret
  exact ⟨rfl, HB37.out⟩
theorem right_e0 : rightE (rightB 3 ⟨#[120]⟩ ⟨#[97]⟩ ⟨#[98]⟩ ⟨#[]⟩ 0 0 ⟨#[]⟩) = 0 := by decide
theorem gright_e0 (w : World) : Calls Tryz.prog 57 #[.agg #[.int .i64 3, .string ⟨#[120]⟩, .string ⟨#[97]⟩, .string ⟨#[98]⟩, .string ⟨#[]⟩, .int .i64 0, .int .i64 0, .string ⟨#[]⟩]] w fun e w' => e = .returned (.int .i64 0) ∧ Below w.heap.size w w' := by
  have q := gright_3 ⟨#[120]⟩ ⟨#[97]⟩ ⟨#[98]⟩ ⟨#[]⟩ 0 0 ⟨#[]⟩ w (by decide) (by decide) (by decide) (by decide)
  rw [right_e0] at q
  exact q
set_option maxRecDepth 100000 in
set_option maxHeartbeats 2000000 in
theorem apply0 (b : Nat) (w : World) (T : TypeId) (fr : Nat × Nat) (h : w.heap[b]? = some (.cells #[.int .i64 3, .string ⟨#[120]⟩, .string ⟨#[97]⟩, .string ⟨#[98]⟩, .string ⟨#[]⟩, .int .i64 0, .int .i64 0, .string ⟨#[]⟩] T fr)) :
    Calls Tryz.prog 30 #[.agg #[.slice none 0 0, .slice none 0 0], .slice (some ⟨b, 0, none⟩) 1 1] w fun e w' => e = .returned (.tuple #[.agg #[.slice none 0 0, .slice none 0 0], .int .i64 0, .int .i64 9]) ∧ Below w.heap.size w w' := by
  have HO := Lib.hid h
  clear h
  have HB1 := Lib.hid (Below.refl w.heap.size w)
  go_enter Tryz.func30, Tryz.ntmps30
  have HF2 := Lib.hid (blk_new w (.cells #[.slice none 0 0, .slice none 0 0] 25 (0, 0)))
  have HB3 := Lib.hid (HB1.out.alloc HB1.out.size (.cells #[.slice none 0 0, .slice none 0 0] 25 (0, 0)))
  clear HB1
  have HF4 := Lib.hid (blk_alloc HF2.out (.cells #[.slice none 0 0, .slice none 0 0] 25 (0, 0)))
  clear HF2
  have HF5 : Hid (((w.alloc (.cells #[.slice none 0 0, .slice none 0 0] 25 (0, 0))).alloc (.cells #[.slice none 0 0, .slice none 0 0] 25 (0, 0))).heap[w.heap.size + 1]? = some (.cells #[.slice none 0 0, .slice none 0 0] 25 (0, 0))) := Lib.hid (blk_newN (W := (w.alloc (.cells #[.slice none 0 0, .slice none 0 0] 25 (0, 0)))) (o := (.cells #[.slice none 0 0, .slice none 0 0] 25 (0, 0))) (by simp))
  have HB6 := Lib.hid (HB3.out.alloc (by have := HB3.out.size; simp at this ⊢ <;> omega) (.cells #[.slice none 0 0, .slice none 0 0] 25 (0, 0)))
  clear HB3
  have HOA := Lib.hid (blk_alloc (blk_alloc HO.out (.cells #[.slice none 0 0, .slice none 0 0] 25 (0, 0))) (.cells #[.slice none 0 0, .slice none 0 0] 25 (0, 0)))
  have hc7 : ((w.alloc (.cells #[.slice none 0 0, .slice none 0 0] 25 (0, 0))).alloc (.cells #[.slice none 0 0, .slice none 0 0] 25 (0, 0))).cell? ⟨w.heap.size, 0, none⟩ = some (.slice none 0 0) := by rw [cell_of_row _ _ _ _ _ _ HF4.out]; rfl
  have hc8 : ((w.alloc (.cells #[.slice none 0 0, .slice none 0 0] 25 (0, 0))).alloc (.cells #[.slice none 0 0, .slice none 0 0] 25 (0, 0))).cell? ⟨w.heap.size, 1, none⟩ = some (.slice none 0 0) := by rw [cell_of_row _ _ _ _ _ _ HF4.out]; rfl
  go_wp2_with fail
  clear hc7 hc8
  refine (gcheck0 ((w.alloc (.cells #[.slice none 0 0, .slice none 0 0] 25 (0, 0))).alloc (.cells #[.slice none 0 0, .slice none 0 0] 25 (0, 0)))).mono ?_
  rintro e w1 ⟨rfl, hb1⟩
  have HF9 := Lib.hid (blk_below HF4.out hb1)
  have HF10 := Lib.hid (blk_below HF5.out hb1)
  have HB11 := Lib.hid (HB6.out.trans (hb1.mono HB6.out.size))
  have HO1 := Lib.hid (blk_below HOA.out hb1)
  clear hb1 HB6 HF4 HF5
  have hc12 : w1.cell? ⟨w.heap.size, 0, none⟩ = some (.slice none 0 0) := by rw [cell_of_row _ _ _ _ _ _ HF9.out]; rfl
  have hc13 : w1.cell? ⟨w.heap.size, 1, none⟩ = some (.slice none 0 0) := by rw [cell_of_row _ _ _ _ _ _ HF9.out]; rfl
  go_wp2_with fail
  clear hc12 hc13
  refine (begin0 w1).mono ?_
  rintro e w2 ⟨p, m, rfl, hk, hb2⟩
  have HF14 := Lib.hid (blk_below HF9.out hb2)
  have HF15 := Lib.hid (blk_below HF10.out hb2)
  have HB16 := Lib.hid (HB11.out.trans (hb2.mono (by have := HB11.out.size; simp at this ⊢ <;> omega)))
  have HO2 := Lib.hid (blk_below HO1.out hb2)
  clear hb2 HB11 HF9 HF10
  have HP2 := Lib.hid hk
  clear hk
  go_wp2_with fail
  go_loop [22] (fun i => i = .int .i64 0) (fun _ => 0)
  case atStart => rfl
  case round =>
    subst hrel
    have o0 : w2.cell? ⟨b, 0, none⟩ = some (.int .i64 3) := by rw [cell_of_row _ _ _ _ _ _ HO2.out]; rfl
    have o1 : w2.cell? ⟨b, 1, none⟩ = some (.string ⟨#[120]⟩) := by rw [cell_of_row _ _ _ _ _ _ HO2.out]; rfl
    have o2 : w2.cell? ⟨b, 2, none⟩ = some (.string ⟨#[97]⟩) := by rw [cell_of_row _ _ _ _ _ _ HO2.out]; rfl
    have o3 : w2.cell? ⟨b, 3, none⟩ = some (.string ⟨#[98]⟩) := by rw [cell_of_row _ _ _ _ _ _ HO2.out]; rfl
    have o4 : w2.cell? ⟨b, 4, none⟩ = some (.string ⟨#[]⟩) := by rw [cell_of_row _ _ _ _ _ _ HO2.out]; rfl
    have o5 : w2.cell? ⟨b, 5, none⟩ = some (.int .i64 0) := by rw [cell_of_row _ _ _ _ _ _ HO2.out]; rfl
    have o6 : w2.cell? ⟨b, 6, none⟩ = some (.int .i64 0) := by rw [cell_of_row _ _ _ _ _ _ HO2.out]; rfl
    have o7 : w2.cell? ⟨b, 7, none⟩ = some (.string ⟨#[]⟩) := by rw [cell_of_row _ _ _ _ _ _ HO2.out]; rfl
    have HP3 := Lib.hid (blk_alloc HP2.out (.cells #[.int .i64 3, .string ⟨#[120]⟩, .string ⟨#[97]⟩, .string ⟨#[98]⟩, .string ⟨#[]⟩, .int .i64 0, .int .i64 0, .string ⟨#[]⟩] 63 (0, 0)))
    have HF17 := Lib.hid (blk_alloc HF14.out (.cells #[.int .i64 3, .string ⟨#[120]⟩, .string ⟨#[97]⟩, .string ⟨#[98]⟩, .string ⟨#[]⟩, .int .i64 0, .int .i64 0, .string ⟨#[]⟩] 63 (0, 0)))
    have HF18 := Lib.hid (blk_alloc HF15.out (.cells #[.int .i64 3, .string ⟨#[120]⟩, .string ⟨#[97]⟩, .string ⟨#[98]⟩, .string ⟨#[]⟩, .int .i64 0, .int .i64 0, .string ⟨#[]⟩] 63 (0, 0)))
    have HF19 := Lib.hid (blk_new w2 (.cells #[.int .i64 3, .string ⟨#[120]⟩, .string ⟨#[97]⟩, .string ⟨#[98]⟩, .string ⟨#[]⟩, .int .i64 0, .int .i64 0, .string ⟨#[]⟩] 63 (0, 0)))
    have HB20 := Lib.hid (HB16.out.alloc HB16.out.size (.cells #[.int .i64 3, .string ⟨#[120]⟩, .string ⟨#[97]⟩, .string ⟨#[98]⟩, .string ⟨#[]⟩, .int .i64 0, .int .i64 0, .string ⟨#[]⟩] 63 (0, 0)))
    clear HB16
    have hc21 : (w2.alloc (.cells #[.int .i64 3, .string ⟨#[120]⟩, .string ⟨#[97]⟩, .string ⟨#[98]⟩, .string ⟨#[]⟩, .int .i64 0, .int .i64 0, .string ⟨#[]⟩] 63 (0, 0))).cell? ⟨w2.heap.size, 0, none⟩ = some (.int .i64 3) := by rw [cell_of_row _ _ _ _ _ _ HF19.out]; rfl
    have hc22 : (w2.alloc (.cells #[.int .i64 3, .string ⟨#[120]⟩, .string ⟨#[97]⟩, .string ⟨#[98]⟩, .string ⟨#[]⟩, .int .i64 0, .int .i64 0, .string ⟨#[]⟩] 63 (0, 0))).cell? ⟨w2.heap.size, 1, none⟩ = some (.string ⟨#[120]⟩) := by rw [cell_of_row _ _ _ _ _ _ HF19.out]; rfl
    have hc23 : (w2.alloc (.cells #[.int .i64 3, .string ⟨#[120]⟩, .string ⟨#[97]⟩, .string ⟨#[98]⟩, .string ⟨#[]⟩, .int .i64 0, .int .i64 0, .string ⟨#[]⟩] 63 (0, 0))).cell? ⟨w2.heap.size, 2, none⟩ = some (.string ⟨#[97]⟩) := by rw [cell_of_row _ _ _ _ _ _ HF19.out]; rfl
    have hc24 : (w2.alloc (.cells #[.int .i64 3, .string ⟨#[120]⟩, .string ⟨#[97]⟩, .string ⟨#[98]⟩, .string ⟨#[]⟩, .int .i64 0, .int .i64 0, .string ⟨#[]⟩] 63 (0, 0))).cell? ⟨w2.heap.size, 3, none⟩ = some (.string ⟨#[98]⟩) := by rw [cell_of_row _ _ _ _ _ _ HF19.out]; rfl
    have hc25 : (w2.alloc (.cells #[.int .i64 3, .string ⟨#[120]⟩, .string ⟨#[97]⟩, .string ⟨#[98]⟩, .string ⟨#[]⟩, .int .i64 0, .int .i64 0, .string ⟨#[]⟩] 63 (0, 0))).cell? ⟨w2.heap.size, 4, none⟩ = some (.string ⟨#[]⟩) := by rw [cell_of_row _ _ _ _ _ _ HF19.out]; rfl
    have hc26 : (w2.alloc (.cells #[.int .i64 3, .string ⟨#[120]⟩, .string ⟨#[97]⟩, .string ⟨#[98]⟩, .string ⟨#[]⟩, .int .i64 0, .int .i64 0, .string ⟨#[]⟩] 63 (0, 0))).cell? ⟨w2.heap.size, 5, none⟩ = some (.int .i64 0) := by rw [cell_of_row _ _ _ _ _ _ HF19.out]; rfl
    have hc27 : (w2.alloc (.cells #[.int .i64 3, .string ⟨#[120]⟩, .string ⟨#[97]⟩, .string ⟨#[98]⟩, .string ⟨#[]⟩, .int .i64 0, .int .i64 0, .string ⟨#[]⟩] 63 (0, 0))).cell? ⟨w2.heap.size, 6, none⟩ = some (.int .i64 0) := by rw [cell_of_row _ _ _ _ _ _ HF19.out]; rfl
    have hc28 : (w2.alloc (.cells #[.int .i64 3, .string ⟨#[120]⟩, .string ⟨#[97]⟩, .string ⟨#[98]⟩, .string ⟨#[]⟩, .int .i64 0, .int .i64 0, .string ⟨#[]⟩] 63 (0, 0))).cell? ⟨w2.heap.size, 7, none⟩ = some (.string ⟨#[]⟩) := by rw [cell_of_row _ _ _ _ _ _ HF19.out]; rfl
    go_wp2_with fail
    clear hc21 hc22 hc23 hc24 hc25 hc26 hc27 hc28
    clear o0 o1 o2 o3 o4 o5 o6 o7
    refine (gright_e0 (w2.alloc (.cells #[.int .i64 3, .string ⟨#[120]⟩, .string ⟨#[97]⟩, .string ⟨#[98]⟩, .string ⟨#[]⟩, .int .i64 0, .int .i64 0, .string ⟨#[]⟩] 63 (0, 0)))).mono ?_
    rintro e w3 ⟨rfl, hb3⟩
    have HF29 := Lib.hid (blk_below HF17.out hb3)
    have HF30 := Lib.hid (blk_below HF18.out hb3)
    have HF31 := Lib.hid (blk_below HF19.out hb3)
    have HB32 := Lib.hid (HB20.out.trans (hb3.mono HB20.out.size))
    have HP4 := Lib.hid (blk_below HP3.out hb3)
    clear hb3 HB20 HF17 HF14 HF18 HF15 HF19
    have hc33 : w3.cell? ⟨w2.heap.size, 0, none⟩ = some (.int .i64 3) := by rw [cell_of_row _ _ _ _ _ _ HF31.out]; rfl
    have hc34 : w3.cell? ⟨w2.heap.size, 1, none⟩ = some (.string ⟨#[120]⟩) := by rw [cell_of_row _ _ _ _ _ _ HF31.out]; rfl
    have hc35 : w3.cell? ⟨w2.heap.size, 2, none⟩ = some (.string ⟨#[97]⟩) := by rw [cell_of_row _ _ _ _ _ _ HF31.out]; rfl
    have hc36 : w3.cell? ⟨w2.heap.size, 3, none⟩ = some (.string ⟨#[98]⟩) := by rw [cell_of_row _ _ _ _ _ _ HF31.out]; rfl
    have hc37 : w3.cell? ⟨w2.heap.size, 4, none⟩ = some (.string ⟨#[]⟩) := by rw [cell_of_row _ _ _ _ _ _ HF31.out]; rfl
    have hc38 : w3.cell? ⟨w2.heap.size, 5, none⟩ = some (.int .i64 0) := by rw [cell_of_row _ _ _ _ _ _ HF31.out]; rfl
    have hc39 : w3.cell? ⟨w2.heap.size, 6, none⟩ = some (.int .i64 0) := by rw [cell_of_row _ _ _ _ _ _ HF31.out]; rfl
    have hc40 : w3.cell? ⟨w2.heap.size, 7, none⟩ = some (.string ⟨#[]⟩) := by rw [cell_of_row _ _ _ _ _ _ HF31.out]; rfl
    go_wp2_with fail
    have hr41 := fun d os => cell_regrown hc33 d os
    have hr42 := fun d os => cell_regrown hc34 d os
    have hr43 := fun d os => cell_regrown hc35 d os
    have hr44 := fun d os => cell_regrown hc36 d os
    have hr45 := fun d os => cell_regrown hc37 d os
    have hr46 := fun d os => cell_regrown hc38 d os
    have hr47 := fun d os => cell_regrown hc39 d os
    have hr48 := fun d os => cell_regrown hc40 d os
    refine wp_region_quiet_below (by kernel_rfl) (by kernel_rfl) ?_
    repeat (any_goals (first | go_big_quiet_step ((first | (go_at_call 58; with_reducible exact Calls.regrown_of (of_same (does3 _ _))) | (go_at_call 87; with_reducible exact Calls.regrown_of (addedge0 p m _ (blk_below HP4.out (below_regrown _ _ _)))))) | quiet_step ((first | (go_at_call 58; with_reducible exact Calls.regrown_of (of_same (does3 _ _))) | (go_at_call 87; with_reducible exact Calls.regrown_of (addedge0 p m _ (blk_below HP4.out (below_regrown _ _ _))))))))
    refine wpQuiet_nil ?_
    intro w4 hw4
    have hb4 := below_anyY hw4
    clear hw4 hr41 hr42 hr43 hr44 hr45 hr46 hr47 hr48
    clear hc33 hc34 hc35 hc36 hc37 hc38 hc39 hc40
    have HF49 := Lib.hid (blk_below HF29.out hb4)
    have HF50 := Lib.hid (blk_below HF30.out hb4)
    have HF51 := Lib.hid (blk_below HF31.out hb4)
    have HB52 := Lib.hid (HB32.out.trans (hb4.mono HB32.out.size))
    clear hb4 HB32 HF29 HF30 HF31
    have hc53 : w4.cell? ⟨w.heap.size + 1, 0, none⟩ = some (.slice none 0 0) := by rw [cell_of_row _ _ _ _ _ _ HF50.out]; rfl
    have hc54 : w4.cell? ⟨w.heap.size + 1, 1, none⟩ = some (.slice none 0 0) := by rw [cell_of_row _ _ _ _ _ _ HF50.out]; rfl
    have hz55 : w4.frozen? ⟨w.heap.size + 1, 0, none⟩ = false := frozen_of_row _ _ _ _ _ HF50.out
    have hz56 : w4.frozen? ⟨w.heap.size + 1, 1, none⟩ = false := frozen_of_row _ _ _ _ _ HF50.out
    go_wp2_with fail
    refine bodyPost_ret (v := .tuple #[.agg #[.slice none 0 0, .slice none 0 0], .int .i64 0, .int .i64 9]) (by simp [results, Tryz.results30, go_sem, *]) rfl ?_
    exact ⟨rfl, (HB52.out.setCell (p := ⟨w.heap.size + 1, 0, none⟩) (by simp) _).setCell (p := ⟨w.heap.size + 1, 1, none⟩) (by simp) _⟩
set_option maxRecDepth 100000 in
set_option maxHeartbeats 1000000 in
theorem awake26 (w : World) : Calls Tryz.prog 7 #[] w fun e w' => e = .returned (.bool true) ∧ Below w.heap.size w w' := by
  have HB1 := Lib.hid (Below.refl w.heap.size w)
  go_enter Tryz.func7, Tryz.ntmps7
  have HF2 := Lib.hid (blk_new w (.cells #[.int .i64 3, .string ⟨#[120]⟩, .string ⟨#[97]⟩, .string ⟨#[98]⟩, .string ⟨#[]⟩, .int .i64 0, .int .i64 0, .string ⟨#[]⟩] 63 (0, 0)))
  have HB3 := Lib.hid (HB1.out.alloc HB1.out.size (.cells #[.int .i64 3, .string ⟨#[120]⟩, .string ⟨#[97]⟩, .string ⟨#[98]⟩, .string ⟨#[]⟩, .int .i64 0, .int .i64 0, .string ⟨#[]⟩] 63 (0, 0)))
  clear HB1
  go_wp2_with fail
  refine (apply0 _ (w.alloc (.cells #[.int .i64 3, .string ⟨#[120]⟩, .string ⟨#[97]⟩, .string ⟨#[98]⟩, .string ⟨#[]⟩, .int .i64 0, .int .i64 0, .string ⟨#[]⟩] 63 (0, 0))) _ _ HF2.out).mono ?_
  rintro e w1 ⟨rfl, hb1⟩
  have HF4 := Lib.hid (blk_below HF2.out hb1)
  have HB5 := Lib.hid (HB3.out.trans (hb1.mono HB3.out.size))
  clear hb1 HB3 HF2
  have HF6 := Lib.hid (blk_alloc HF4.out (.cells #[.slice none 0 0, .slice none 0 0] 25 (0, 0)))
  have HF7 := Lib.hid (blk_new w1 (.cells #[.slice none 0 0, .slice none 0 0] 25 (0, 0)))
  have HB8 := Lib.hid (HB5.out.alloc HB5.out.size (.cells #[.slice none 0 0, .slice none 0 0] 25 (0, 0)))
  clear HB5
  go_wp2_with fail
  go_ret
  exact ⟨rfl, HB8.out⟩
end Go.Proofs.YtagenkofoacajaaGreat
