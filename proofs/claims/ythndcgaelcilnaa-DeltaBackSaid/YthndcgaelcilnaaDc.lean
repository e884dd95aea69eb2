/- delta.Check and the document's Is of layer 11 over this translation, and the example of the layer. No condition. -/
import Derived.Test.YthndcgaelcilnaaDp
namespace Go.Proofs.Ythndcgaelcilnaa
open Go.RowKit

def okP (p : Pc) : Bool := decide (1 ≤ p.2.2.1 ∧ p.2.2.1 ≤ 65536) && (if p.1 = true then decide (0 ≤ p.2.1 ∧ p.2.1 ≤ 65536 ∧ p.2.2.2.size = 0) else decide (p.2.1 = 0 ∧ p.2.2.1 = (p.2.2.2.size : Int)))
theorem bIn (x : Int) (y : Int) (b : Bool) (h : (x = y) ↔ b = true) : (x == y) = b ∧ (x != y) = !b := by
  have : (x == y) = b := by rw [Bool.eq_iff_iff]; simpa using h
  exact ⟨this, by rw [bne, this]⟩
set_option maxRecDepth 100000 in
set_option maxHeartbeats 2000000 in
theorem dcheck_any (c : Bool) (a n : Int) (o : ByteArray) (k : Bool) (w : World) (hk : okP (c, a, n, o) = k) :
    Calls Try.prog 17 #[.agg #[.bool c, .int .i64 a, .int .i64 n, .string o]] w fun e w' => e = .returned (.int .i64 (if k = true then 0 else 2)) ∧ Below w.heap.size w w' := by
  have hol : o.data.toList.length = o.size := by simp
  have HOL := Lib.hid hol
  clear hol

  by_cases h1 : n < 1
  · have d1 : decide (n < 1) = true := decide_eq_true h1
    have hkk := (show okP (c, a, n, o) = false by unfold okP; exact Bool.and_eq_false_iff.2 (.inl (decide_eq_false (by dsimp only; omega))))
    rw [hkk] at hk
    subst hk
    clear hkk
    have HB1 := Lib.hid (Below.refl w.heap.size w)
    go_enter Try.func17, Try.ntmps17
    have HF2 := Lib.hid (blk_new w (.cells #[.bool c, .int .i64 a, .int .i64 n, .string o] 26 (0, 0)))
    have HB3 := Lib.hid (HB1.out.alloc HB1.out.size (.cells #[.bool c, .int .i64 a, .int .i64 n, .string o] 26 (0, 0)))
    clear HB1
    have hc4 : (w.alloc (.cells #[.bool c, .int .i64 a, .int .i64 n, .string o] 26 (0, 0))).cell? ⟨w.heap.size, 0, none⟩ = some (.bool c) := by rw [cell_of_row _ _ _ _ _ _ HF2.out]; rfl
    have hc5 : (w.alloc (.cells #[.bool c, .int .i64 a, .int .i64 n, .string o] 26 (0, 0))).cell? ⟨w.heap.size, 1, none⟩ = some (.int .i64 a) := by rw [cell_of_row _ _ _ _ _ _ HF2.out]; rfl
    have hc6 : (w.alloc (.cells #[.bool c, .int .i64 a, .int .i64 n, .string o] 26 (0, 0))).cell? ⟨w.heap.size, 2, none⟩ = some (.int .i64 n) := by rw [cell_of_row _ _ _ _ _ _ HF2.out]; rfl
    have hc7 : (w.alloc (.cells #[.bool c, .int .i64 a, .int .i64 n, .string o] 26 (0, 0))).cell? ⟨w.heap.size, 3, none⟩ = some (.string o) := by rw [cell_of_row _ _ _ _ _ _ HF2.out]; rfl
    go_wp2_with fail
    go_ret
    exact ⟨rfl, HB3.out⟩
  · have d1 : decide (n < 1) = false := decide_eq_false h1
    by_cases h2 : 65536 < n
    · have d2 : decide (65536 < n) = true := decide_eq_true h2
      have hkk := (show okP (c, a, n, o) = false by unfold okP; exact Bool.and_eq_false_iff.2 (.inl (decide_eq_false (by dsimp only; omega))))
      rw [hkk] at hk
      subst hk
      clear hkk
      have HB1 := Lib.hid (Below.refl w.heap.size w)
      go_enter Try.func17, Try.ntmps17
      have HF2 := Lib.hid (blk_new w (.cells #[.bool c, .int .i64 a, .int .i64 n, .string o] 26 (0, 0)))
      have HB3 := Lib.hid (HB1.out.alloc HB1.out.size (.cells #[.bool c, .int .i64 a, .int .i64 n, .string o] 26 (0, 0)))
      clear HB1
      have hc4 : (w.alloc (.cells #[.bool c, .int .i64 a, .int .i64 n, .string o] 26 (0, 0))).cell? ⟨w.heap.size, 0, none⟩ = some (.bool c) := by rw [cell_of_row _ _ _ _ _ _ HF2.out]; rfl
      have hc5 : (w.alloc (.cells #[.bool c, .int .i64 a, .int .i64 n, .string o] 26 (0, 0))).cell? ⟨w.heap.size, 1, none⟩ = some (.int .i64 a) := by rw [cell_of_row _ _ _ _ _ _ HF2.out]; rfl
      have hc6 : (w.alloc (.cells #[.bool c, .int .i64 a, .int .i64 n, .string o] 26 (0, 0))).cell? ⟨w.heap.size, 2, none⟩ = some (.int .i64 n) := by rw [cell_of_row _ _ _ _ _ _ HF2.out]; rfl
      have hc7 : (w.alloc (.cells #[.bool c, .int .i64 a, .int .i64 n, .string o] 26 (0, 0))).cell? ⟨w.heap.size, 3, none⟩ = some (.string o) := by rw [cell_of_row _ _ _ _ _ _ HF2.out]; rfl
      go_wp2_with fail
      go_ret
      exact ⟨rfl, HB3.out⟩
    · have d2 : decide (65536 < n) = false := decide_eq_false h2
      cases c with
      | true =>
        by_cases h3 : a < 0
        · have d3 : decide (a < 0) = true := decide_eq_true h3
          have d3' : decide (0 ≤ a) = false := decide_eq_false (by omega)
          have hkk := (show okP (true, a, n, o) = false by unfold okP; dsimp only; rw [if_pos rfl]; exact Bool.and_eq_false_iff.2 (.inr (decide_eq_false (by omega))))
          rw [hkk] at hk
          subst hk
          clear hkk
          have HB1 := Lib.hid (Below.refl w.heap.size w)
          go_enter Try.func17, Try.ntmps17
          have HF2 := Lib.hid (blk_new w (.cells #[.bool true, .int .i64 a, .int .i64 n, .string o] 26 (0, 0)))
          have HB3 := Lib.hid (HB1.out.alloc HB1.out.size (.cells #[.bool true, .int .i64 a, .int .i64 n, .string o] 26 (0, 0)))
          clear HB1
          have hc4 : (w.alloc (.cells #[.bool true, .int .i64 a, .int .i64 n, .string o] 26 (0, 0))).cell? ⟨w.heap.size, 0, none⟩ = some (.bool true) := by rw [cell_of_row _ _ _ _ _ _ HF2.out]; rfl
          have hc5 : (w.alloc (.cells #[.bool true, .int .i64 a, .int .i64 n, .string o] 26 (0, 0))).cell? ⟨w.heap.size, 1, none⟩ = some (.int .i64 a) := by rw [cell_of_row _ _ _ _ _ _ HF2.out]; rfl
          have hc6 : (w.alloc (.cells #[.bool true, .int .i64 a, .int .i64 n, .string o] 26 (0, 0))).cell? ⟨w.heap.size, 2, none⟩ = some (.int .i64 n) := by rw [cell_of_row _ _ _ _ _ _ HF2.out]; rfl
          have hc7 : (w.alloc (.cells #[.bool true, .int .i64 a, .int .i64 n, .string o] 26 (0, 0))).cell? ⟨w.heap.size, 3, none⟩ = some (.string o) := by rw [cell_of_row _ _ _ _ _ _ HF2.out]; rfl
          go_wp2_with fail
          go_ret
          exact ⟨rfl, HB3.out⟩
        · have d3 : decide (a < 0) = false := decide_eq_false h3
          have d3' : decide (0 ≤ a) = true := decide_eq_true (by omega)
          by_cases h4 : 65536 < a
          · have d4 : decide (65536 < a) = true := decide_eq_true h4
            have d4' : decide (a ≤ 65536) = false := decide_eq_false (by omega)
            have hkk := (show okP (true, a, n, o) = false by unfold okP; dsimp only; rw [if_pos rfl]; exact Bool.and_eq_false_iff.2 (.inr (decide_eq_false (by omega))))
            rw [hkk] at hk
            subst hk
            clear hkk
            have HB1 := Lib.hid (Below.refl w.heap.size w)
            go_enter Try.func17, Try.ntmps17
            have HF2 := Lib.hid (blk_new w (.cells #[.bool true, .int .i64 a, .int .i64 n, .string o] 26 (0, 0)))
            have HB3 := Lib.hid (HB1.out.alloc HB1.out.size (.cells #[.bool true, .int .i64 a, .int .i64 n, .string o] 26 (0, 0)))
            clear HB1
            have hc4 : (w.alloc (.cells #[.bool true, .int .i64 a, .int .i64 n, .string o] 26 (0, 0))).cell? ⟨w.heap.size, 0, none⟩ = some (.bool true) := by rw [cell_of_row _ _ _ _ _ _ HF2.out]; rfl
            have hc5 : (w.alloc (.cells #[.bool true, .int .i64 a, .int .i64 n, .string o] 26 (0, 0))).cell? ⟨w.heap.size, 1, none⟩ = some (.int .i64 a) := by rw [cell_of_row _ _ _ _ _ _ HF2.out]; rfl
            have hc6 : (w.alloc (.cells #[.bool true, .int .i64 a, .int .i64 n, .string o] 26 (0, 0))).cell? ⟨w.heap.size, 2, none⟩ = some (.int .i64 n) := by rw [cell_of_row _ _ _ _ _ _ HF2.out]; rfl
            have hc7 : (w.alloc (.cells #[.bool true, .int .i64 a, .int .i64 n, .string o] 26 (0, 0))).cell? ⟨w.heap.size, 3, none⟩ = some (.string o) := by rw [cell_of_row _ _ _ _ _ _ HF2.out]; rfl
            go_wp2_with fail
            go_ret
            exact ⟨rfl, HB3.out⟩
          · have d4 : decide (65536 < a) = false := decide_eq_false h4
            have d4' : decide (a ≤ 65536) = true := decide_eq_true (by omega)
            by_cases h5 : o.size = 0
            · have hn : o.data.toList = [] := List.eq_nil_of_length_eq_zero (by rw [HOL.out]; exact h5)
              have d5 : o.toList.isEmpty = true := by rw [Lib.toList_data, hn]; rfl
              clear hn
              have hkk := (show okP (true, a, n, o) = true by unfold okP; dsimp only; rw [if_pos rfl]; exact Bool.and_eq_true_iff.2 ⟨decide_eq_true (by omega), decide_eq_true (by omega)⟩)
              rw [hkk] at hk
              subst hk
              clear hkk
              have HB1 := Lib.hid (Below.refl w.heap.size w)
              go_enter Try.func17, Try.ntmps17
              have HF2 := Lib.hid (blk_new w (.cells #[.bool true, .int .i64 a, .int .i64 n, .string o] 26 (0, 0)))
              have HB3 := Lib.hid (HB1.out.alloc HB1.out.size (.cells #[.bool true, .int .i64 a, .int .i64 n, .string o] 26 (0, 0)))
              clear HB1
              have hc4 : (w.alloc (.cells #[.bool true, .int .i64 a, .int .i64 n, .string o] 26 (0, 0))).cell? ⟨w.heap.size, 0, none⟩ = some (.bool true) := by rw [cell_of_row _ _ _ _ _ _ HF2.out]; rfl
              have hc5 : (w.alloc (.cells #[.bool true, .int .i64 a, .int .i64 n, .string o] 26 (0, 0))).cell? ⟨w.heap.size, 1, none⟩ = some (.int .i64 a) := by rw [cell_of_row _ _ _ _ _ _ HF2.out]; rfl
              have hc6 : (w.alloc (.cells #[.bool true, .int .i64 a, .int .i64 n, .string o] 26 (0, 0))).cell? ⟨w.heap.size, 2, none⟩ = some (.int .i64 n) := by rw [cell_of_row _ _ _ _ _ _ HF2.out]; rfl
              have hc7 : (w.alloc (.cells #[.bool true, .int .i64 a, .int .i64 n, .string o] 26 (0, 0))).cell? ⟨w.heap.size, 3, none⟩ = some (.string o) := by rw [cell_of_row _ _ _ _ _ _ HF2.out]; rfl
              go_wp2_with fail
              go_ret
              exact ⟨rfl, HB3.out⟩
            · have d5 : o.toList.isEmpty = false := by
                rw [Lib.toList_data, List.isEmpty_eq_false_iff]
                exact fun e => h5 (by rw [← HOL.out, e]; rfl)
              have hkk := (show okP (true, a, n, o) = false by unfold okP; dsimp only; rw [if_pos rfl]; exact Bool.and_eq_false_iff.2 (.inr (decide_eq_false (by omega))))
              rw [hkk] at hk
              subst hk
              clear hkk
              have HB1 := Lib.hid (Below.refl w.heap.size w)
              go_enter Try.func17, Try.ntmps17
              have HF2 := Lib.hid (blk_new w (.cells #[.bool true, .int .i64 a, .int .i64 n, .string o] 26 (0, 0)))
              have HB3 := Lib.hid (HB1.out.alloc HB1.out.size (.cells #[.bool true, .int .i64 a, .int .i64 n, .string o] 26 (0, 0)))
              clear HB1
              have hc4 : (w.alloc (.cells #[.bool true, .int .i64 a, .int .i64 n, .string o] 26 (0, 0))).cell? ⟨w.heap.size, 0, none⟩ = some (.bool true) := by rw [cell_of_row _ _ _ _ _ _ HF2.out]; rfl
              have hc5 : (w.alloc (.cells #[.bool true, .int .i64 a, .int .i64 n, .string o] 26 (0, 0))).cell? ⟨w.heap.size, 1, none⟩ = some (.int .i64 a) := by rw [cell_of_row _ _ _ _ _ _ HF2.out]; rfl
              have hc6 : (w.alloc (.cells #[.bool true, .int .i64 a, .int .i64 n, .string o] 26 (0, 0))).cell? ⟨w.heap.size, 2, none⟩ = some (.int .i64 n) := by rw [cell_of_row _ _ _ _ _ _ HF2.out]; rfl
              have hc7 : (w.alloc (.cells #[.bool true, .int .i64 a, .int .i64 n, .string o] 26 (0, 0))).cell? ⟨w.heap.size, 3, none⟩ = some (.string o) := by rw [cell_of_row _ _ _ _ _ _ HF2.out]; rfl
              go_wp2_with fail
              go_ret
              exact ⟨rfl, HB3.out⟩
      | false =>
        by_cases h3 : a = 0
        · obtain ⟨d3, d3'⟩ := bIn a 0 true (by simp [h3])
          by_cases h4 : n = (o.size : Int)
          · obtain ⟨d4, d4'⟩ := bIn n (o.size : Int) true (by simp [h4])
            obtain ⟨d5, d5'⟩ := bIn (o.size : Int) n true (by simp [h4])
            have H3 := Lib.hid h3
            have H4 := Lib.hid h4
            clear h3 h4
            have hkk := (show okP (false, a, n, o) = true by have h3 := H3.out; have h4 := H4.out; unfold okP; dsimp only; rw [if_neg (by simp)]; exact Bool.and_eq_true_iff.2 ⟨decide_eq_true (by omega), decide_eq_true (by omega)⟩)
            rw [hkk] at hk
            subst hk
            clear hkk
            have HB1 := Lib.hid (Below.refl w.heap.size w)
            go_enter Try.func17, Try.ntmps17
            have HF2 := Lib.hid (blk_new w (.cells #[.bool false, .int .i64 a, .int .i64 n, .string o] 26 (0, 0)))
            have HB3 := Lib.hid (HB1.out.alloc HB1.out.size (.cells #[.bool false, .int .i64 a, .int .i64 n, .string o] 26 (0, 0)))
            clear HB1
            have hc4 : (w.alloc (.cells #[.bool false, .int .i64 a, .int .i64 n, .string o] 26 (0, 0))).cell? ⟨w.heap.size, 0, none⟩ = some (.bool false) := by rw [cell_of_row _ _ _ _ _ _ HF2.out]; rfl
            have hc5 : (w.alloc (.cells #[.bool false, .int .i64 a, .int .i64 n, .string o] 26 (0, 0))).cell? ⟨w.heap.size, 1, none⟩ = some (.int .i64 a) := by rw [cell_of_row _ _ _ _ _ _ HF2.out]; rfl
            have hc6 : (w.alloc (.cells #[.bool false, .int .i64 a, .int .i64 n, .string o] 26 (0, 0))).cell? ⟨w.heap.size, 2, none⟩ = some (.int .i64 n) := by rw [cell_of_row _ _ _ _ _ _ HF2.out]; rfl
            have hc7 : (w.alloc (.cells #[.bool false, .int .i64 a, .int .i64 n, .string o] 26 (0, 0))).cell? ⟨w.heap.size, 3, none⟩ = some (.string o) := by rw [cell_of_row _ _ _ _ _ _ HF2.out]; rfl
            go_wp2_with fail
            go_ret
            exact ⟨rfl, HB3.out⟩
          · obtain ⟨d4, d4'⟩ := bIn n (o.size : Int) false (by simp [h4])
            obtain ⟨d5, d5'⟩ := bIn (o.size : Int) n false (by simp; omega)
            have H3 := Lib.hid h3
            have H4 := Lib.hid h4
            clear h3 h4
            have hkk := (show okP (false, a, n, o) = false by have h3 := H3.out; have h4 := H4.out; unfold okP; dsimp only; rw [if_neg (by simp)]; exact Bool.and_eq_false_iff.2 (.inr (decide_eq_false (by omega))))
            rw [hkk] at hk
            subst hk
            clear hkk
            have HB1 := Lib.hid (Below.refl w.heap.size w)
            go_enter Try.func17, Try.ntmps17
            have HF2 := Lib.hid (blk_new w (.cells #[.bool false, .int .i64 a, .int .i64 n, .string o] 26 (0, 0)))
            have HB3 := Lib.hid (HB1.out.alloc HB1.out.size (.cells #[.bool false, .int .i64 a, .int .i64 n, .string o] 26 (0, 0)))
            clear HB1
            have hc4 : (w.alloc (.cells #[.bool false, .int .i64 a, .int .i64 n, .string o] 26 (0, 0))).cell? ⟨w.heap.size, 0, none⟩ = some (.bool false) := by rw [cell_of_row _ _ _ _ _ _ HF2.out]; rfl
            have hc5 : (w.alloc (.cells #[.bool false, .int .i64 a, .int .i64 n, .string o] 26 (0, 0))).cell? ⟨w.heap.size, 1, none⟩ = some (.int .i64 a) := by rw [cell_of_row _ _ _ _ _ _ HF2.out]; rfl
            have hc6 : (w.alloc (.cells #[.bool false, .int .i64 a, .int .i64 n, .string o] 26 (0, 0))).cell? ⟨w.heap.size, 2, none⟩ = some (.int .i64 n) := by rw [cell_of_row _ _ _ _ _ _ HF2.out]; rfl
            have hc7 : (w.alloc (.cells #[.bool false, .int .i64 a, .int .i64 n, .string o] 26 (0, 0))).cell? ⟨w.heap.size, 3, none⟩ = some (.string o) := by rw [cell_of_row _ _ _ _ _ _ HF2.out]; rfl
            go_wp2_with fail
            go_ret
            exact ⟨rfl, HB3.out⟩
        · obtain ⟨d3, d3'⟩ := bIn a 0 false (by simp [h3])
          have H3 := Lib.hid h3
          clear h3
          have hkk := (show okP (false, a, n, o) = false by have h3 := H3.out; unfold okP; dsimp only; rw [if_neg (by simp)]; exact Bool.and_eq_false_iff.2 (.inr (decide_eq_false (by omega))))
          rw [hkk] at hk
          subst hk
          clear hkk
          have HB1 := Lib.hid (Below.refl w.heap.size w)
          go_enter Try.func17, Try.ntmps17
          have HF2 := Lib.hid (blk_new w (.cells #[.bool false, .int .i64 a, .int .i64 n, .string o] 26 (0, 0)))
          have HB3 := Lib.hid (HB1.out.alloc HB1.out.size (.cells #[.bool false, .int .i64 a, .int .i64 n, .string o] 26 (0, 0)))
          clear HB1
          have hc4 : (w.alloc (.cells #[.bool false, .int .i64 a, .int .i64 n, .string o] 26 (0, 0))).cell? ⟨w.heap.size, 0, none⟩ = some (.bool false) := by rw [cell_of_row _ _ _ _ _ _ HF2.out]; rfl
          have hc5 : (w.alloc (.cells #[.bool false, .int .i64 a, .int .i64 n, .string o] 26 (0, 0))).cell? ⟨w.heap.size, 1, none⟩ = some (.int .i64 a) := by rw [cell_of_row _ _ _ _ _ _ HF2.out]; rfl
          have hc6 : (w.alloc (.cells #[.bool false, .int .i64 a, .int .i64 n, .string o] 26 (0, 0))).cell? ⟨w.heap.size, 2, none⟩ = some (.int .i64 n) := by rw [cell_of_row _ _ _ _ _ _ HF2.out]; rfl
          have hc7 : (w.alloc (.cells #[.bool false, .int .i64 a, .int .i64 n, .string o] 26 (0, 0))).cell? ⟨w.heap.size, 3, none⟩ = some (.string o) := by rw [cell_of_row _ _ _ _ _ _ HF2.out]; rfl
          go_wp2_with fail
          go_ret
          exact ⟨rfl, HB3.out⟩
set_option maxRecDepth 100000 in
set_option maxHeartbeats 2000000 in
theorem dis_any (c : Bool) (a n : Int) (o : ByteArray) (k : Bool) (w : World) (hk : okP (c, a, n, o) = k) :
    Calls Try.prog 18 #[.agg #[.bool c, .int .i64 a, .int .i64 n, .string o]] w fun e w' => e = .returned (.bool k) ∧ Below w.heap.size w w' := by
  have hol : o.data.toList.length = o.size := by simp
  have HOL := Lib.hid hol
  clear hol

  by_cases h1 : n < 1
  · have d1 : decide (n < 1) = true := decide_eq_true h1
    have hkk := (show okP (c, a, n, o) = false by unfold okP; exact Bool.and_eq_false_iff.2 (.inl (decide_eq_false (by dsimp only; omega))))
    rw [hkk] at hk
    subst hk
    clear hkk
    have HB1 := Lib.hid (Below.refl w.heap.size w)
    go_enter Try.func18, Try.ntmps18
    have HF2 := Lib.hid (blk_new w (.cells #[.bool c, .int .i64 a, .int .i64 n, .string o] 26 (0, 0)))
    have HB3 := Lib.hid (HB1.out.alloc HB1.out.size (.cells #[.bool c, .int .i64 a, .int .i64 n, .string o] 26 (0, 0)))
    clear HB1
    have hc4 : (w.alloc (.cells #[.bool c, .int .i64 a, .int .i64 n, .string o] 26 (0, 0))).cell? ⟨w.heap.size, 0, none⟩ = some (.bool c) := by rw [cell_of_row _ _ _ _ _ _ HF2.out]; rfl
    have hc5 : (w.alloc (.cells #[.bool c, .int .i64 a, .int .i64 n, .string o] 26 (0, 0))).cell? ⟨w.heap.size, 1, none⟩ = some (.int .i64 a) := by rw [cell_of_row _ _ _ _ _ _ HF2.out]; rfl
    have hc6 : (w.alloc (.cells #[.bool c, .int .i64 a, .int .i64 n, .string o] 26 (0, 0))).cell? ⟨w.heap.size, 2, none⟩ = some (.int .i64 n) := by rw [cell_of_row _ _ _ _ _ _ HF2.out]; rfl
    have hc7 : (w.alloc (.cells #[.bool c, .int .i64 a, .int .i64 n, .string o] 26 (0, 0))).cell? ⟨w.heap.size, 3, none⟩ = some (.string o) := by rw [cell_of_row _ _ _ _ _ _ HF2.out]; rfl
    go_wp2_with fail
    go_ret
    exact ⟨rfl, HB3.out⟩
  · have d1 : decide (n < 1) = false := decide_eq_false h1
    by_cases h2 : 65536 < n
    · have d2 : decide (65536 < n) = true := decide_eq_true h2
      have hkk := (show okP (c, a, n, o) = false by unfold okP; exact Bool.and_eq_false_iff.2 (.inl (decide_eq_false (by dsimp only; omega))))
      rw [hkk] at hk
      subst hk
      clear hkk
      have HB1 := Lib.hid (Below.refl w.heap.size w)
      go_enter Try.func18, Try.ntmps18
      have HF2 := Lib.hid (blk_new w (.cells #[.bool c, .int .i64 a, .int .i64 n, .string o] 26 (0, 0)))
      have HB3 := Lib.hid (HB1.out.alloc HB1.out.size (.cells #[.bool c, .int .i64 a, .int .i64 n, .string o] 26 (0, 0)))
      clear HB1
      have hc4 : (w.alloc (.cells #[.bool c, .int .i64 a, .int .i64 n, .string o] 26 (0, 0))).cell? ⟨w.heap.size, 0, none⟩ = some (.bool c) := by rw [cell_of_row _ _ _ _ _ _ HF2.out]; rfl
      have hc5 : (w.alloc (.cells #[.bool c, .int .i64 a, .int .i64 n, .string o] 26 (0, 0))).cell? ⟨w.heap.size, 1, none⟩ = some (.int .i64 a) := by rw [cell_of_row _ _ _ _ _ _ HF2.out]; rfl
      have hc6 : (w.alloc (.cells #[.bool c, .int .i64 a, .int .i64 n, .string o] 26 (0, 0))).cell? ⟨w.heap.size, 2, none⟩ = some (.int .i64 n) := by rw [cell_of_row _ _ _ _ _ _ HF2.out]; rfl
      have hc7 : (w.alloc (.cells #[.bool c, .int .i64 a, .int .i64 n, .string o] 26 (0, 0))).cell? ⟨w.heap.size, 3, none⟩ = some (.string o) := by rw [cell_of_row _ _ _ _ _ _ HF2.out]; rfl
      go_wp2_with fail
      go_ret
      exact ⟨rfl, HB3.out⟩
    · have d2 : decide (65536 < n) = false := decide_eq_false h2
      cases c with
      | true =>
        by_cases h3 : a < 0
        · have d3 : decide (a < 0) = true := decide_eq_true h3
          have d3' : decide (0 ≤ a) = false := decide_eq_false (by omega)
          have hkk := (show okP (true, a, n, o) = false by unfold okP; dsimp only; rw [if_pos rfl]; exact Bool.and_eq_false_iff.2 (.inr (decide_eq_false (by omega))))
          rw [hkk] at hk
          subst hk
          clear hkk
          have HB1 := Lib.hid (Below.refl w.heap.size w)
          go_enter Try.func18, Try.ntmps18
          have HF2 := Lib.hid (blk_new w (.cells #[.bool true, .int .i64 a, .int .i64 n, .string o] 26 (0, 0)))
          have HB3 := Lib.hid (HB1.out.alloc HB1.out.size (.cells #[.bool true, .int .i64 a, .int .i64 n, .string o] 26 (0, 0)))
          clear HB1
          have hc4 : (w.alloc (.cells #[.bool true, .int .i64 a, .int .i64 n, .string o] 26 (0, 0))).cell? ⟨w.heap.size, 0, none⟩ = some (.bool true) := by rw [cell_of_row _ _ _ _ _ _ HF2.out]; rfl
          have hc5 : (w.alloc (.cells #[.bool true, .int .i64 a, .int .i64 n, .string o] 26 (0, 0))).cell? ⟨w.heap.size, 1, none⟩ = some (.int .i64 a) := by rw [cell_of_row _ _ _ _ _ _ HF2.out]; rfl
          have hc6 : (w.alloc (.cells #[.bool true, .int .i64 a, .int .i64 n, .string o] 26 (0, 0))).cell? ⟨w.heap.size, 2, none⟩ = some (.int .i64 n) := by rw [cell_of_row _ _ _ _ _ _ HF2.out]; rfl
          have hc7 : (w.alloc (.cells #[.bool true, .int .i64 a, .int .i64 n, .string o] 26 (0, 0))).cell? ⟨w.heap.size, 3, none⟩ = some (.string o) := by rw [cell_of_row _ _ _ _ _ _ HF2.out]; rfl
          go_wp2_with fail
          go_ret
          exact ⟨rfl, HB3.out⟩
        · have d3 : decide (a < 0) = false := decide_eq_false h3
          have d3' : decide (0 ≤ a) = true := decide_eq_true (by omega)
          by_cases h4 : 65536 < a
          · have d4 : decide (65536 < a) = true := decide_eq_true h4
            have d4' : decide (a ≤ 65536) = false := decide_eq_false (by omega)
            have hkk := (show okP (true, a, n, o) = false by unfold okP; dsimp only; rw [if_pos rfl]; exact Bool.and_eq_false_iff.2 (.inr (decide_eq_false (by omega))))
            rw [hkk] at hk
            subst hk
            clear hkk
            have HB1 := Lib.hid (Below.refl w.heap.size w)
            go_enter Try.func18, Try.ntmps18
            have HF2 := Lib.hid (blk_new w (.cells #[.bool true, .int .i64 a, .int .i64 n, .string o] 26 (0, 0)))
            have HB3 := Lib.hid (HB1.out.alloc HB1.out.size (.cells #[.bool true, .int .i64 a, .int .i64 n, .string o] 26 (0, 0)))
            clear HB1
            have hc4 : (w.alloc (.cells #[.bool true, .int .i64 a, .int .i64 n, .string o] 26 (0, 0))).cell? ⟨w.heap.size, 0, none⟩ = some (.bool true) := by rw [cell_of_row _ _ _ _ _ _ HF2.out]; rfl
            have hc5 : (w.alloc (.cells #[.bool true, .int .i64 a, .int .i64 n, .string o] 26 (0, 0))).cell? ⟨w.heap.size, 1, none⟩ = some (.int .i64 a) := by rw [cell_of_row _ _ _ _ _ _ HF2.out]; rfl
            have hc6 : (w.alloc (.cells #[.bool true, .int .i64 a, .int .i64 n, .string o] 26 (0, 0))).cell? ⟨w.heap.size, 2, none⟩ = some (.int .i64 n) := by rw [cell_of_row _ _ _ _ _ _ HF2.out]; rfl
            have hc7 : (w.alloc (.cells #[.bool true, .int .i64 a, .int .i64 n, .string o] 26 (0, 0))).cell? ⟨w.heap.size, 3, none⟩ = some (.string o) := by rw [cell_of_row _ _ _ _ _ _ HF2.out]; rfl
            go_wp2_with fail
            go_ret
            exact ⟨rfl, HB3.out⟩
          · have d4 : decide (65536 < a) = false := decide_eq_false h4
            have d4' : decide (a ≤ 65536) = true := decide_eq_true (by omega)
            by_cases h5 : o.size = 0
            · have hn : o.data.toList = [] := List.eq_nil_of_length_eq_zero (by rw [HOL.out]; exact h5)
              have d5 : o.toList.isEmpty = true := by rw [Lib.toList_data, hn]; rfl
              clear hn
              have hkk := (show okP (true, a, n, o) = true by unfold okP; dsimp only; rw [if_pos rfl]; exact Bool.and_eq_true_iff.2 ⟨decide_eq_true (by omega), decide_eq_true (by omega)⟩)
              rw [hkk] at hk
              subst hk
              clear hkk
              have HB1 := Lib.hid (Below.refl w.heap.size w)
              go_enter Try.func18, Try.ntmps18
              have HF2 := Lib.hid (blk_new w (.cells #[.bool true, .int .i64 a, .int .i64 n, .string o] 26 (0, 0)))
              have HB3 := Lib.hid (HB1.out.alloc HB1.out.size (.cells #[.bool true, .int .i64 a, .int .i64 n, .string o] 26 (0, 0)))
              clear HB1
              have hc4 : (w.alloc (.cells #[.bool true, .int .i64 a, .int .i64 n, .string o] 26 (0, 0))).cell? ⟨w.heap.size, 0, none⟩ = some (.bool true) := by rw [cell_of_row _ _ _ _ _ _ HF2.out]; rfl
              have hc5 : (w.alloc (.cells #[.bool true, .int .i64 a, .int .i64 n, .string o] 26 (0, 0))).cell? ⟨w.heap.size, 1, none⟩ = some (.int .i64 a) := by rw [cell_of_row _ _ _ _ _ _ HF2.out]; rfl
              have hc6 : (w.alloc (.cells #[.bool true, .int .i64 a, .int .i64 n, .string o] 26 (0, 0))).cell? ⟨w.heap.size, 2, none⟩ = some (.int .i64 n) := by rw [cell_of_row _ _ _ _ _ _ HF2.out]; rfl
              have hc7 : (w.alloc (.cells #[.bool true, .int .i64 a, .int .i64 n, .string o] 26 (0, 0))).cell? ⟨w.heap.size, 3, none⟩ = some (.string o) := by rw [cell_of_row _ _ _ _ _ _ HF2.out]; rfl
              go_wp2_with fail
              go_ret
              exact ⟨rfl, HB3.out⟩
            · have d5 : o.toList.isEmpty = false := by
                rw [Lib.toList_data, List.isEmpty_eq_false_iff]
                exact fun e => h5 (by rw [← HOL.out, e]; rfl)
              have hkk := (show okP (true, a, n, o) = false by unfold okP; dsimp only; rw [if_pos rfl]; exact Bool.and_eq_false_iff.2 (.inr (decide_eq_false (by omega))))
              rw [hkk] at hk
              subst hk
              clear hkk
              have HB1 := Lib.hid (Below.refl w.heap.size w)
              go_enter Try.func18, Try.ntmps18
              have HF2 := Lib.hid (blk_new w (.cells #[.bool true, .int .i64 a, .int .i64 n, .string o] 26 (0, 0)))
              have HB3 := Lib.hid (HB1.out.alloc HB1.out.size (.cells #[.bool true, .int .i64 a, .int .i64 n, .string o] 26 (0, 0)))
              clear HB1
              have hc4 : (w.alloc (.cells #[.bool true, .int .i64 a, .int .i64 n, .string o] 26 (0, 0))).cell? ⟨w.heap.size, 0, none⟩ = some (.bool true) := by rw [cell_of_row _ _ _ _ _ _ HF2.out]; rfl
              have hc5 : (w.alloc (.cells #[.bool true, .int .i64 a, .int .i64 n, .string o] 26 (0, 0))).cell? ⟨w.heap.size, 1, none⟩ = some (.int .i64 a) := by rw [cell_of_row _ _ _ _ _ _ HF2.out]; rfl
              have hc6 : (w.alloc (.cells #[.bool true, .int .i64 a, .int .i64 n, .string o] 26 (0, 0))).cell? ⟨w.heap.size, 2, none⟩ = some (.int .i64 n) := by rw [cell_of_row _ _ _ _ _ _ HF2.out]; rfl
              have hc7 : (w.alloc (.cells #[.bool true, .int .i64 a, .int .i64 n, .string o] 26 (0, 0))).cell? ⟨w.heap.size, 3, none⟩ = some (.string o) := by rw [cell_of_row _ _ _ _ _ _ HF2.out]; rfl
              go_wp2_with fail
              go_ret
              exact ⟨rfl, HB3.out⟩
      | false =>
        by_cases h3 : a = 0
        · obtain ⟨d3, d3'⟩ := bIn a 0 true (by simp [h3])
          by_cases h4 : n = (o.size : Int)
          · obtain ⟨d4, d4'⟩ := bIn n (o.size : Int) true (by simp [h4])
            obtain ⟨d5, d5'⟩ := bIn (o.size : Int) n true (by simp [h4])
            have H3 := Lib.hid h3
            have H4 := Lib.hid h4
            clear h3 h4
            have hkk := (show okP (false, a, n, o) = true by have h3 := H3.out; have h4 := H4.out; unfold okP; dsimp only; rw [if_neg (by simp)]; exact Bool.and_eq_true_iff.2 ⟨decide_eq_true (by omega), decide_eq_true (by omega)⟩)
            rw [hkk] at hk
            subst hk
            clear hkk
            have HB1 := Lib.hid (Below.refl w.heap.size w)
            go_enter Try.func18, Try.ntmps18
            have HF2 := Lib.hid (blk_new w (.cells #[.bool false, .int .i64 a, .int .i64 n, .string o] 26 (0, 0)))
            have HB3 := Lib.hid (HB1.out.alloc HB1.out.size (.cells #[.bool false, .int .i64 a, .int .i64 n, .string o] 26 (0, 0)))
            clear HB1
            have hc4 : (w.alloc (.cells #[.bool false, .int .i64 a, .int .i64 n, .string o] 26 (0, 0))).cell? ⟨w.heap.size, 0, none⟩ = some (.bool false) := by rw [cell_of_row _ _ _ _ _ _ HF2.out]; rfl
            have hc5 : (w.alloc (.cells #[.bool false, .int .i64 a, .int .i64 n, .string o] 26 (0, 0))).cell? ⟨w.heap.size, 1, none⟩ = some (.int .i64 a) := by rw [cell_of_row _ _ _ _ _ _ HF2.out]; rfl
            have hc6 : (w.alloc (.cells #[.bool false, .int .i64 a, .int .i64 n, .string o] 26 (0, 0))).cell? ⟨w.heap.size, 2, none⟩ = some (.int .i64 n) := by rw [cell_of_row _ _ _ _ _ _ HF2.out]; rfl
            have hc7 : (w.alloc (.cells #[.bool false, .int .i64 a, .int .i64 n, .string o] 26 (0, 0))).cell? ⟨w.heap.size, 3, none⟩ = some (.string o) := by rw [cell_of_row _ _ _ _ _ _ HF2.out]; rfl
            go_wp2_with fail
            go_ret
            exact ⟨rfl, HB3.out⟩
          · obtain ⟨d4, d4'⟩ := bIn n (o.size : Int) false (by simp [h4])
            obtain ⟨d5, d5'⟩ := bIn (o.size : Int) n false (by simp; omega)
            have H3 := Lib.hid h3
            have H4 := Lib.hid h4
            clear h3 h4
            have hkk := (show okP (false, a, n, o) = false by have h3 := H3.out; have h4 := H4.out; unfold okP; dsimp only; rw [if_neg (by simp)]; exact Bool.and_eq_false_iff.2 (.inr (decide_eq_false (by omega))))
            rw [hkk] at hk
            subst hk
            clear hkk
            have HB1 := Lib.hid (Below.refl w.heap.size w)
            go_enter Try.func18, Try.ntmps18
            have HF2 := Lib.hid (blk_new w (.cells #[.bool false, .int .i64 a, .int .i64 n, .string o] 26 (0, 0)))
            have HB3 := Lib.hid (HB1.out.alloc HB1.out.size (.cells #[.bool false, .int .i64 a, .int .i64 n, .string o] 26 (0, 0)))
            clear HB1
            have hc4 : (w.alloc (.cells #[.bool false, .int .i64 a, .int .i64 n, .string o] 26 (0, 0))).cell? ⟨w.heap.size, 0, none⟩ = some (.bool false) := by rw [cell_of_row _ _ _ _ _ _ HF2.out]; rfl
            have hc5 : (w.alloc (.cells #[.bool false, .int .i64 a, .int .i64 n, .string o] 26 (0, 0))).cell? ⟨w.heap.size, 1, none⟩ = some (.int .i64 a) := by rw [cell_of_row _ _ _ _ _ _ HF2.out]; rfl
            have hc6 : (w.alloc (.cells #[.bool false, .int .i64 a, .int .i64 n, .string o] 26 (0, 0))).cell? ⟨w.heap.size, 2, none⟩ = some (.int .i64 n) := by rw [cell_of_row _ _ _ _ _ _ HF2.out]; rfl
            have hc7 : (w.alloc (.cells #[.bool false, .int .i64 a, .int .i64 n, .string o] 26 (0, 0))).cell? ⟨w.heap.size, 3, none⟩ = some (.string o) := by rw [cell_of_row _ _ _ _ _ _ HF2.out]; rfl
            go_wp2_with fail
            go_ret
            exact ⟨rfl, HB3.out⟩
        · obtain ⟨d3, d3'⟩ := bIn a 0 false (by simp [h3])
          have H3 := Lib.hid h3
          clear h3
          have hkk := (show okP (false, a, n, o) = false by have h3 := H3.out; unfold okP; dsimp only; rw [if_neg (by simp)]; exact Bool.and_eq_false_iff.2 (.inr (decide_eq_false (by omega))))
          rw [hkk] at hk
          subst hk
          clear hkk
          have HB1 := Lib.hid (Below.refl w.heap.size w)
          go_enter Try.func18, Try.ntmps18
          have HF2 := Lib.hid (blk_new w (.cells #[.bool false, .int .i64 a, .int .i64 n, .string o] 26 (0, 0)))
          have HB3 := Lib.hid (HB1.out.alloc HB1.out.size (.cells #[.bool false, .int .i64 a, .int .i64 n, .string o] 26 (0, 0)))
          clear HB1
          have hc4 : (w.alloc (.cells #[.bool false, .int .i64 a, .int .i64 n, .string o] 26 (0, 0))).cell? ⟨w.heap.size, 0, none⟩ = some (.bool false) := by rw [cell_of_row _ _ _ _ _ _ HF2.out]; rfl
          have hc5 : (w.alloc (.cells #[.bool false, .int .i64 a, .int .i64 n, .string o] 26 (0, 0))).cell? ⟨w.heap.size, 1, none⟩ = some (.int .i64 a) := by rw [cell_of_row _ _ _ _ _ _ HF2.out]; rfl
          have hc6 : (w.alloc (.cells #[.bool false, .int .i64 a, .int .i64 n, .string o] 26 (0, 0))).cell? ⟨w.heap.size, 2, none⟩ = some (.int .i64 n) := by rw [cell_of_row _ _ _ _ _ _ HF2.out]; rfl
          have hc7 : (w.alloc (.cells #[.bool false, .int .i64 a, .int .i64 n, .string o] 26 (0, 0))).cell? ⟨w.heap.size, 3, none⟩ = some (.string o) := by rw [cell_of_row _ _ _ _ _ _ HF2.out]; rfl
          go_wp2_with fail
          go_ret
          exact ⟨rfl, HB3.out⟩
theorem RdX_block {α : Type} {f : α → List Value} {s : Nat} (hf : ∀ x, (f x).length = s) {w : World} {b : Nat} {cs : Array Value} {T : TypeId} {fr : Nat × Nat} {l : List α} (hb : w.heap[b]? = some (.cells cs T fr)) (hcs : cs.toList = flat f l) : RdX f s w (some ⟨b, 0, none⟩) l.length l :=
  ⟨rfl, fun _ => ⟨b, 0, rfl, lt_of_block hb, fun k x j u hk hu => by
    rw [Nat.zero_add, cell_of_row _ _ _ _ _ _ hb]
    have := flat_get hf l k j x u hk hu
    rw [← hcs] at this
    simpa using this⟩⟩
def awB : ByteArray := ⟨#[97, 98, 99, 100, 101, 102, 103, 104, 105, 106]⟩
def awT : ByteArray := ⟨#[97, 98, 99, 100, 101, 102, 103, 104, 88]⟩
theorem aw_pieces : pcsW awB.data.toList awT.data.toList 0 0 [] = [(true, 0, 8, ⟨#[]⟩), (false, 0, 1, ⟨#[88]⟩)] := by
  rw [pcsW_some _ _ 0 0 0 8 [] (by decide) (by decide) (by decide), pcsW_end _ _ _ _ _ (by decide)]
  decide
set_option maxRecDepth 100000 in
set_option maxHeartbeats 2000000 in
theorem awake11 (w : World) : Calls Try.prog 16 #[] w fun e w' => e = .returned (.bool true) ∧ Below w.heap.size w w' := by
  have HP := Lib.hid (fun W : World => pieces_any awB awT W (by decide) (by decide))
  rw [aw_pieces] at HP
  have HS := Lib.hid (fun (W : World) (A1 A2 : Option Addr) (c1 c2 : Nat) h1 h2 => same_any A1 A2 2 2 c1 c2 [(true, 0, 8, ⟨#[]⟩), (false, 0, 1, ⟨#[88]⟩)] [(true, 0, 8, ⟨#[]⟩), (false, 0, 1, ⟨#[88]⟩)] W h1 h2 (by omega) (by omega))
  unfold awB awT at HP
  go_enter Try.func16, Try.ntmps16
  go_wp2_with fail
  refine (HP.out w).mono ?_
  rintro e w1 ⟨v, rfl, hx, hb, hz⟩
  obtain ⟨A, c, rfl, hr, _, _⟩ := hx.rd pcC_len
  have HR := Lib.hid hr
  have HB := Lib.hid hb
  clear hx hr hb
  go_wp2_with fail
  refine (HS.out _ _ _ _ _ (HR.out.alloc _) (RdX_block pcC_len (l := [(true, 0, 8, ⟨#[]⟩), (false, 0, 1, ⟨#[88]⟩)]) (heap_alloc_new w1 _) rfl)).mono ?_
  rintro e w2 ⟨rfl, hb2⟩
  have HB2 := Lib.hid ((HB.out.alloc HB.out.size _).trans (hb2.mono (by have := HB.out.size; simp; omega)))
  go_wp2_with fail
  go_ret
  exact ⟨by simp, HB2.out⟩
end Go.Proofs.Ythndcgaelcilnaa
