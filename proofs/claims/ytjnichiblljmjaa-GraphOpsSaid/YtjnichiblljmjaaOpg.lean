/- graph.Right over this translation. Conditions: texts that are no longer than a text may be. -/
import Derived.Test.YtjnichiblljmjaaOpr
namespace Go.Proofs.Ytjnichiblljmjaa
open Go.RowKit Vi

set_option maxRecDepth 100000 in
set_option maxHeartbeats 4000000 in
theorem gright_1 (i f g y : ByteArray) (a d : Int) (t : ByteArray) (w : World) (hi : i.size ≤ maxLen) (_hf : f.size ≤ maxLen) (_hg : g.size ≤ maxLen) (_hy : y.size ≤ maxLen) :
    Calls Try.prog 48 #[.agg #[.int .i64 1, .string i, .string f, .string g, .string y, .int .i64 a, .int .i64 d, .string t]] w fun e w' => e = .returned (.int .i64 (rightE (rightB 1 i f g y a d t))) ∧ Below w.heap.size w w' := by
  have HB1 := Lib.hid (Below.refl w.heap.size w)
  go_enter Try.func48, Try.ntmps48
  have HF2 := Lib.hid (blk_new w (.cells #[.int .i64 1, .string i, .string f, .string g, .string y, .int .i64 a, .int .i64 d, .string t] 85 (0, 0)))
  have HB3 := Lib.hid (HB1.out.alloc HB1.out.size (.cells #[.int .i64 1, .string i, .string f, .string g, .string y, .int .i64 a, .int .i64 d, .string t] 85 (0, 0)))
  clear HB1
  have hc4 : (w.alloc (.cells #[.int .i64 1, .string i, .string f, .string g, .string y, .int .i64 a, .int .i64 d, .string t] 85 (0, 0))).cell? ⟨w.heap.size, 0, none⟩ = some (.int .i64 1) := by rw [cell_of_row _ _ _ _ _ _ HF2.out]; rfl
  have hc5 : (w.alloc (.cells #[.int .i64 1, .string i, .string f, .string g, .string y, .int .i64 a, .int .i64 d, .string t] 85 (0, 0))).cell? ⟨w.heap.size, 1, none⟩ = some (.string i) := by rw [cell_of_row _ _ _ _ _ _ HF2.out]; rfl
  have hc6 : (w.alloc (.cells #[.int .i64 1, .string i, .string f, .string g, .string y, .int .i64 a, .int .i64 d, .string t] 85 (0, 0))).cell? ⟨w.heap.size, 2, none⟩ = some (.string f) := by rw [cell_of_row _ _ _ _ _ _ HF2.out]; rfl
  have hc7 : (w.alloc (.cells #[.int .i64 1, .string i, .string f, .string g, .string y, .int .i64 a, .int .i64 d, .string t] 85 (0, 0))).cell? ⟨w.heap.size, 3, none⟩ = some (.string g) := by rw [cell_of_row _ _ _ _ _ _ HF2.out]; rfl
  have hc8 : (w.alloc (.cells #[.int .i64 1, .string i, .string f, .string g, .string y, .int .i64 a, .int .i64 d, .string t] 85 (0, 0))).cell? ⟨w.heap.size, 4, none⟩ = some (.string y) := by rw [cell_of_row _ _ _ _ _ _ HF2.out]; rfl
  have hc9 : (w.alloc (.cells #[.int .i64 1, .string i, .string f, .string g, .string y, .int .i64 a, .int .i64 d, .string t] 85 (0, 0))).cell? ⟨w.heap.size, 5, none⟩ = some (.int .i64 a) := by rw [cell_of_row _ _ _ _ _ _ HF2.out]; rfl
  have hc10 : (w.alloc (.cells #[.int .i64 1, .string i, .string f, .string g, .string y, .int .i64 a, .int .i64 d, .string t] 85 (0, 0))).cell? ⟨w.heap.size, 6, none⟩ = some (.int .i64 d) := by rw [cell_of_row _ _ _ _ _ _ HF2.out]; rfl
  have hc11 : (w.alloc (.cells #[.int .i64 1, .string i, .string f, .string g, .string y, .int .i64 a, .int .i64 d, .string t] 85 (0, 0))).cell? ⟨w.heap.size, 7, none⟩ = some (.string t) := by rw [cell_of_row _ _ _ _ _ _ HF2.out]; rfl
  have HF12 := Lib.hid (blk_alloc HF2.out (.cells #[.string i] 9 (0, 0)))
  clear HF2
  have HF13 : Hid (((w.alloc (.cells #[.int .i64 1, .string i, .string f, .string g, .string y, .int .i64 a, .int .i64 d, .string t] 85 (0, 0))).alloc (.cells #[.string i] 9 (0, 0))).heap[w.heap.size + 1]? = some (.cells #[.string i] 9 (0, 0))) := Lib.hid (blk_newN (W := (w.alloc (.cells #[.int .i64 1, .string i, .string f, .string g, .string y, .int .i64 a, .int .i64 d, .string t] 85 (0, 0)))) (o := (.cells #[.string i] 9 (0, 0))) (by simp))
  have HB14 := Lib.hid (HB3.out.alloc (by have := HB3.out.size; simp at this ⊢ <;> omega) (.cells #[.string i] 9 (0, 0)))
  clear HB3
  have hc15 : ((w.alloc (.cells #[.int .i64 1, .string i, .string f, .string g, .string y, .int .i64 a, .int .i64 d, .string t] 85 (0, 0))).alloc (.cells #[.string i] 9 (0, 0))).cell? ⟨w.heap.size, 0, none⟩ = some (.int .i64 1) := by rw [cell_of_row _ _ _ _ _ _ HF12.out]; rfl
  have hc16 : ((w.alloc (.cells #[.int .i64 1, .string i, .string f, .string g, .string y, .int .i64 a, .int .i64 d, .string t] 85 (0, 0))).alloc (.cells #[.string i] 9 (0, 0))).cell? ⟨w.heap.size, 1, none⟩ = some (.string i) := by rw [cell_of_row _ _ _ _ _ _ HF12.out]; rfl
  have hc17 : ((w.alloc (.cells #[.int .i64 1, .string i, .string f, .string g, .string y, .int .i64 a, .int .i64 d, .string t] 85 (0, 0))).alloc (.cells #[.string i] 9 (0, 0))).cell? ⟨w.heap.size, 2, none⟩ = some (.string f) := by rw [cell_of_row _ _ _ _ _ _ HF12.out]; rfl
  have hc18 : ((w.alloc (.cells #[.int .i64 1, .string i, .string f, .string g, .string y, .int .i64 a, .int .i64 d, .string t] 85 (0, 0))).alloc (.cells #[.string i] 9 (0, 0))).cell? ⟨w.heap.size, 3, none⟩ = some (.string g) := by rw [cell_of_row _ _ _ _ _ _ HF12.out]; rfl
  have hc19 : ((w.alloc (.cells #[.int .i64 1, .string i, .string f, .string g, .string y, .int .i64 a, .int .i64 d, .string t] 85 (0, 0))).alloc (.cells #[.string i] 9 (0, 0))).cell? ⟨w.heap.size, 4, none⟩ = some (.string y) := by rw [cell_of_row _ _ _ _ _ _ HF12.out]; rfl
  have hc20 : ((w.alloc (.cells #[.int .i64 1, .string i, .string f, .string g, .string y, .int .i64 a, .int .i64 d, .string t] 85 (0, 0))).alloc (.cells #[.string i] 9 (0, 0))).cell? ⟨w.heap.size, 5, none⟩ = some (.int .i64 a) := by rw [cell_of_row _ _ _ _ _ _ HF12.out]; rfl
  have hc21 : ((w.alloc (.cells #[.int .i64 1, .string i, .string f, .string g, .string y, .int .i64 a, .int .i64 d, .string t] 85 (0, 0))).alloc (.cells #[.string i] 9 (0, 0))).cell? ⟨w.heap.size, 6, none⟩ = some (.int .i64 d) := by rw [cell_of_row _ _ _ _ _ _ HF12.out]; rfl
  have hc22 : ((w.alloc (.cells #[.int .i64 1, .string i, .string f, .string g, .string y, .int .i64 a, .int .i64 d, .string t] 85 (0, 0))).alloc (.cells #[.string i] 9 (0, 0))).cell? ⟨w.heap.size, 7, none⟩ = some (.string t) := by rw [cell_of_row _ _ _ _ _ _ HF12.out]; rfl
  go_wp2_with fail
  clear hc4 hc5 hc6 hc7 hc8 hc9 hc10 hc11 hc15 hc16 hc17 hc18 hc19 hc20 hc21 hc22
  obtain ⟨L, hL⟩ : ∃ L : List ByteArray, L = [i] := ⟨_, rfl⟩
  have HRD := Lib.hid (show RdX stC 1 ((w.alloc (.cells #[.int .i64 1, .string i, .string f, .string g, .string y, .int .i64 a, .int .i64 d, .string t] 85 (0, 0))).alloc (.cells #[.string i] 9 (0, 0))) (some ⟨w.heap.size + 1, 0, none⟩) 1 L by rw [hL]; exact rd_blk (f := stC) (s := 1) (fun _ => rfl) [i] HF13.out rfl)
  have HSZ : Hid (∀ s ∈ L, s.size ≤ maxLen) := Lib.hid (by rw [hL]; intro s hs; simp at hs; rcases hs with rfl <;> assumption)
  have HLN := Lib.hid (show L.length = 1 by rw [hL]; rfl)
  have HEV := Lib.hid (show (if L.all nm = true then (0 : Int) else 2) = rightE (rightB 1 i f g y a d t) by rw [hL]; unfold rightE rightB; simp)
  clear hL
  go_loop [53] (fun j => ∃ q : Nat, j = .int .i64 (q : Int) ∧ q ≤ 1 ∧ Hid ((L.take q).all nm = true)) (fun j => 1 - (intOf j).toNat)
  case atStart => exact ⟨0, rfl, Nat.zero_le _, Lib.hid rfl⟩
  case round =>
    obtain ⟨q, rfl, hq, HI⟩ := hrel
    by_cases hlt : q < 1
    · have hd1 : decide ((q : Int) < 1) = true := decide_eq_true (by omega)
      have hl : q < L.length := by rw [HLN.out]; exact hlt
      have HX := Lib.hid (List.getElem?_eq_getElem hl)
      have hsz := HSZ.out _ (List.getElem_mem hl)
      have HAT := Lib.hid (List.take_succ_eq_append_getElem hl)
      have HMEM := Lib.hid (List.getElem_mem hl)
      obtain ⟨s, hs⟩ : ∃ s, s = L[q] := ⟨_, rfl⟩
      rw [← hs] at HX hsz HAT HMEM
      clear hs
      have hc : ((w.alloc (.cells #[.int .i64 1, .string i, .string f, .string g, .string y, .int .i64 a, .int .i64 d, .string t] 85 (0, 0))).alloc (.cells #[.string i] 9 (0, 0))).cell? ⟨w.heap.size + 1, q, none⟩ = some (.string s) := by have h := HRD.out.cellAt HX.out (by omega) 0 _ rfl; simpa using h
      have hi0 : (0 : Int) ≤ (q : Int) := by omega
      have hi1 : (q : Int) < 1 := by omega
      have HC := Lib.hid (fun W : World => ncheck_any s W hsz)
      cases hn : nm s with
      | false =>
        have HE := Lib.hid (show (2 : Int) = rightE (rightB 1 i f g y a d t) by
          rw [← HEV.out, if_neg]
          intro h
          rw [List.all_eq_true.1 h s HMEM.out] at hn
          cases hn)
        rw [nck_no s hn] at HC
        clear hn
        go_wp2_with fail
        refine (HC.out _).mono ?_
        rintro e w' ⟨rfl, rfl⟩
        go_wp2_with fail
        go_ret
        exact ⟨retI HE.out, HB14.out⟩
      | true =>
        have HJ := Lib.hid (show (L.take (q + 1)).all nm = true by rw [HAT.out, List.all_append, HI.out]; simp [hn])
        rw [nck_yes s hn] at HC
        clear hn
        go_wp2_with fail
        refine (HC.out _).mono ?_
        rintro e w' ⟨rfl, rfl⟩
        go_wp2_with fail
        go_round
        case rel => exact ⟨q + 1, by go_num, by omega, HJ⟩
        case measure => simp [intOf] <;> omega
    · have hd1 : decide ((q : Int) < 1) = false := decide_eq_false (by omega)
      have HE := Lib.hid (show (0 : Int) = rightE (rightB 1 i f g y a d t) by rw [← HEV.out, if_pos]; rw [← List.take_of_length_le (l := L) (i := q) (by rw [HLN.out]; omega)]; exact HI.out)
      go_wp2_with fail
      go_ret
      exact ⟨retI HE.out, HB14.out⟩
set_option maxRecDepth 100000 in
set_option maxHeartbeats 4000000 in
theorem gright_2 (i f g y : ByteArray) (a d : Int) (t : ByteArray) (w : World) (hi : i.size ≤ maxLen) (_hf : f.size ≤ maxLen) (_hg : g.size ≤ maxLen) (_hy : y.size ≤ maxLen) :
    Calls Try.prog 48 #[.agg #[.int .i64 2, .string i, .string f, .string g, .string y, .int .i64 a, .int .i64 d, .string t]] w fun e w' => e = .returned (.int .i64 (rightE (rightB 2 i f g y a d t))) ∧ Below w.heap.size w w' := by
  have HB1 := Lib.hid (Below.refl w.heap.size w)
  go_enter Try.func48, Try.ntmps48
  have HF2 := Lib.hid (blk_new w (.cells #[.int .i64 2, .string i, .string f, .string g, .string y, .int .i64 a, .int .i64 d, .string t] 85 (0, 0)))
  have HB3 := Lib.hid (HB1.out.alloc HB1.out.size (.cells #[.int .i64 2, .string i, .string f, .string g, .string y, .int .i64 a, .int .i64 d, .string t] 85 (0, 0)))
  clear HB1
  have hc4 : (w.alloc (.cells #[.int .i64 2, .string i, .string f, .string g, .string y, .int .i64 a, .int .i64 d, .string t] 85 (0, 0))).cell? ⟨w.heap.size, 0, none⟩ = some (.int .i64 2) := by rw [cell_of_row _ _ _ _ _ _ HF2.out]; rfl
  have hc5 : (w.alloc (.cells #[.int .i64 2, .string i, .string f, .string g, .string y, .int .i64 a, .int .i64 d, .string t] 85 (0, 0))).cell? ⟨w.heap.size, 1, none⟩ = some (.string i) := by rw [cell_of_row _ _ _ _ _ _ HF2.out]; rfl
  have hc6 : (w.alloc (.cells #[.int .i64 2, .string i, .string f, .string g, .string y, .int .i64 a, .int .i64 d, .string t] 85 (0, 0))).cell? ⟨w.heap.size, 2, none⟩ = some (.string f) := by rw [cell_of_row _ _ _ _ _ _ HF2.out]; rfl
  have hc7 : (w.alloc (.cells #[.int .i64 2, .string i, .string f, .string g, .string y, .int .i64 a, .int .i64 d, .string t] 85 (0, 0))).cell? ⟨w.heap.size, 3, none⟩ = some (.string g) := by rw [cell_of_row _ _ _ _ _ _ HF2.out]; rfl
  have hc8 : (w.alloc (.cells #[.int .i64 2, .string i, .string f, .string g, .string y, .int .i64 a, .int .i64 d, .string t] 85 (0, 0))).cell? ⟨w.heap.size, 4, none⟩ = some (.string y) := by rw [cell_of_row _ _ _ _ _ _ HF2.out]; rfl
  have hc9 : (w.alloc (.cells #[.int .i64 2, .string i, .string f, .string g, .string y, .int .i64 a, .int .i64 d, .string t] 85 (0, 0))).cell? ⟨w.heap.size, 5, none⟩ = some (.int .i64 a) := by rw [cell_of_row _ _ _ _ _ _ HF2.out]; rfl
  have hc10 : (w.alloc (.cells #[.int .i64 2, .string i, .string f, .string g, .string y, .int .i64 a, .int .i64 d, .string t] 85 (0, 0))).cell? ⟨w.heap.size, 6, none⟩ = some (.int .i64 d) := by rw [cell_of_row _ _ _ _ _ _ HF2.out]; rfl
  have hc11 : (w.alloc (.cells #[.int .i64 2, .string i, .string f, .string g, .string y, .int .i64 a, .int .i64 d, .string t] 85 (0, 0))).cell? ⟨w.heap.size, 7, none⟩ = some (.string t) := by rw [cell_of_row _ _ _ _ _ _ HF2.out]; rfl
  have HF12 := Lib.hid (blk_alloc HF2.out (.cells #[.string i] 9 (0, 0)))
  clear HF2
  have HF13 : Hid (((w.alloc (.cells #[.int .i64 2, .string i, .string f, .string g, .string y, .int .i64 a, .int .i64 d, .string t] 85 (0, 0))).alloc (.cells #[.string i] 9 (0, 0))).heap[w.heap.size + 1]? = some (.cells #[.string i] 9 (0, 0))) := Lib.hid (blk_newN (W := (w.alloc (.cells #[.int .i64 2, .string i, .string f, .string g, .string y, .int .i64 a, .int .i64 d, .string t] 85 (0, 0)))) (o := (.cells #[.string i] 9 (0, 0))) (by simp))
  have HB14 := Lib.hid (HB3.out.alloc (by have := HB3.out.size; simp at this ⊢ <;> omega) (.cells #[.string i] 9 (0, 0)))
  clear HB3
  have hc15 : ((w.alloc (.cells #[.int .i64 2, .string i, .string f, .string g, .string y, .int .i64 a, .int .i64 d, .string t] 85 (0, 0))).alloc (.cells #[.string i] 9 (0, 0))).cell? ⟨w.heap.size, 0, none⟩ = some (.int .i64 2) := by rw [cell_of_row _ _ _ _ _ _ HF12.out]; rfl
  have hc16 : ((w.alloc (.cells #[.int .i64 2, .string i, .string f, .string g, .string y, .int .i64 a, .int .i64 d, .string t] 85 (0, 0))).alloc (.cells #[.string i] 9 (0, 0))).cell? ⟨w.heap.size, 1, none⟩ = some (.string i) := by rw [cell_of_row _ _ _ _ _ _ HF12.out]; rfl
  have hc17 : ((w.alloc (.cells #[.int .i64 2, .string i, .string f, .string g, .string y, .int .i64 a, .int .i64 d, .string t] 85 (0, 0))).alloc (.cells #[.string i] 9 (0, 0))).cell? ⟨w.heap.size, 2, none⟩ = some (.string f) := by rw [cell_of_row _ _ _ _ _ _ HF12.out]; rfl
  have hc18 : ((w.alloc (.cells #[.int .i64 2, .string i, .string f, .string g, .string y, .int .i64 a, .int .i64 d, .string t] 85 (0, 0))).alloc (.cells #[.string i] 9 (0, 0))).cell? ⟨w.heap.size, 3, none⟩ = some (.string g) := by rw [cell_of_row _ _ _ _ _ _ HF12.out]; rfl
  have hc19 : ((w.alloc (.cells #[.int .i64 2, .string i, .string f, .string g, .string y, .int .i64 a, .int .i64 d, .string t] 85 (0, 0))).alloc (.cells #[.string i] 9 (0, 0))).cell? ⟨w.heap.size, 4, none⟩ = some (.string y) := by rw [cell_of_row _ _ _ _ _ _ HF12.out]; rfl
  have hc20 : ((w.alloc (.cells #[.int .i64 2, .string i, .string f, .string g, .string y, .int .i64 a, .int .i64 d, .string t] 85 (0, 0))).alloc (.cells #[.string i] 9 (0, 0))).cell? ⟨w.heap.size, 5, none⟩ = some (.int .i64 a) := by rw [cell_of_row _ _ _ _ _ _ HF12.out]; rfl
  have hc21 : ((w.alloc (.cells #[.int .i64 2, .string i, .string f, .string g, .string y, .int .i64 a, .int .i64 d, .string t] 85 (0, 0))).alloc (.cells #[.string i] 9 (0, 0))).cell? ⟨w.heap.size, 6, none⟩ = some (.int .i64 d) := by rw [cell_of_row _ _ _ _ _ _ HF12.out]; rfl
  have hc22 : ((w.alloc (.cells #[.int .i64 2, .string i, .string f, .string g, .string y, .int .i64 a, .int .i64 d, .string t] 85 (0, 0))).alloc (.cells #[.string i] 9 (0, 0))).cell? ⟨w.heap.size, 7, none⟩ = some (.string t) := by rw [cell_of_row _ _ _ _ _ _ HF12.out]; rfl
  go_wp2_with fail
  clear hc4 hc5 hc6 hc7 hc8 hc9 hc10 hc11 hc15 hc16 hc17 hc18 hc19 hc20 hc21 hc22
  obtain ⟨L, hL⟩ : ∃ L : List ByteArray, L = [i] := ⟨_, rfl⟩
  have HRD := Lib.hid (show RdX stC 1 ((w.alloc (.cells #[.int .i64 2, .string i, .string f, .string g, .string y, .int .i64 a, .int .i64 d, .string t] 85 (0, 0))).alloc (.cells #[.string i] 9 (0, 0))) (some ⟨w.heap.size + 1, 0, none⟩) 1 L by rw [hL]; exact rd_blk (f := stC) (s := 1) (fun _ => rfl) [i] HF13.out rfl)
  have HSZ : Hid (∀ s ∈ L, s.size ≤ maxLen) := Lib.hid (by rw [hL]; intro s hs; simp at hs; rcases hs with rfl <;> assumption)
  have HLN := Lib.hid (show L.length = 1 by rw [hL]; rfl)
  have HEV := Lib.hid (show (if L.all nm = true then (0 : Int) else 2) = rightE (rightB 2 i f g y a d t) by rw [hL]; unfold rightE rightB; simp)
  clear hL
  go_loop [53] (fun j => ∃ q : Nat, j = .int .i64 (q : Int) ∧ q ≤ 1 ∧ Hid ((L.take q).all nm = true)) (fun j => 1 - (intOf j).toNat)
  case atStart => exact ⟨0, rfl, Nat.zero_le _, Lib.hid rfl⟩
  case round =>
    obtain ⟨q, rfl, hq, HI⟩ := hrel
    by_cases hlt : q < 1
    · have hd1 : decide ((q : Int) < 1) = true := decide_eq_true (by omega)
      have hl : q < L.length := by rw [HLN.out]; exact hlt
      have HX := Lib.hid (List.getElem?_eq_getElem hl)
      have hsz := HSZ.out _ (List.getElem_mem hl)
      have HAT := Lib.hid (List.take_succ_eq_append_getElem hl)
      have HMEM := Lib.hid (List.getElem_mem hl)
      obtain ⟨s, hs⟩ : ∃ s, s = L[q] := ⟨_, rfl⟩
      rw [← hs] at HX hsz HAT HMEM
      clear hs
      have hc : ((w.alloc (.cells #[.int .i64 2, .string i, .string f, .string g, .string y, .int .i64 a, .int .i64 d, .string t] 85 (0, 0))).alloc (.cells #[.string i] 9 (0, 0))).cell? ⟨w.heap.size + 1, q, none⟩ = some (.string s) := by have h := HRD.out.cellAt HX.out (by omega) 0 _ rfl; simpa using h
      have hi0 : (0 : Int) ≤ (q : Int) := by omega
      have hi1 : (q : Int) < 1 := by omega
      have HC := Lib.hid (fun W : World => ncheck_any s W hsz)
      cases hn : nm s with
      | false =>
        have HE := Lib.hid (show (2 : Int) = rightE (rightB 2 i f g y a d t) by
          rw [← HEV.out, if_neg]
          intro h
          rw [List.all_eq_true.1 h s HMEM.out] at hn
          cases hn)
        rw [nck_no s hn] at HC
        clear hn
        go_wp2_with fail
        refine (HC.out _).mono ?_
        rintro e w' ⟨rfl, rfl⟩
        go_wp2_with fail
        go_ret
        exact ⟨retI HE.out, HB14.out⟩
      | true =>
        have HJ := Lib.hid (show (L.take (q + 1)).all nm = true by rw [HAT.out, List.all_append, HI.out]; simp [hn])
        rw [nck_yes s hn] at HC
        clear hn
        go_wp2_with fail
        refine (HC.out _).mono ?_
        rintro e w' ⟨rfl, rfl⟩
        go_wp2_with fail
        go_round
        case rel => exact ⟨q + 1, by go_num, by omega, HJ⟩
        case measure => simp [intOf] <;> omega
    · have hd1 : decide ((q : Int) < 1) = false := decide_eq_false (by omega)
      have HE := Lib.hid (show (0 : Int) = rightE (rightB 2 i f g y a d t) by rw [← HEV.out, if_pos]; rw [← List.take_of_length_le (l := L) (i := q) (by rw [HLN.out]; omega)]; exact HI.out)
      go_wp2_with fail
      go_ret
      exact ⟨retI HE.out, HB14.out⟩
set_option maxRecDepth 100000 in
set_option maxHeartbeats 4000000 in
theorem gright_3 (i f g y : ByteArray) (a d : Int) (t : ByteArray) (w : World) (hi : i.size ≤ maxLen) (hf : f.size ≤ maxLen) (hg : g.size ≤ maxLen) (_hy : y.size ≤ maxLen) :
    Calls Try.prog 48 #[.agg #[.int .i64 3, .string i, .string f, .string g, .string y, .int .i64 a, .int .i64 d, .string t]] w fun e w' => e = .returned (.int .i64 (rightE (rightB 3 i f g y a d t))) ∧ Below w.heap.size w w' := by
  have HB1 := Lib.hid (Below.refl w.heap.size w)
  go_enter Try.func48, Try.ntmps48
  have HF2 := Lib.hid (blk_new w (.cells #[.int .i64 3, .string i, .string f, .string g, .string y, .int .i64 a, .int .i64 d, .string t] 85 (0, 0)))
  have HB3 := Lib.hid (HB1.out.alloc HB1.out.size (.cells #[.int .i64 3, .string i, .string f, .string g, .string y, .int .i64 a, .int .i64 d, .string t] 85 (0, 0)))
  clear HB1
  have hc4 : (w.alloc (.cells #[.int .i64 3, .string i, .string f, .string g, .string y, .int .i64 a, .int .i64 d, .string t] 85 (0, 0))).cell? ⟨w.heap.size, 0, none⟩ = some (.int .i64 3) := by rw [cell_of_row _ _ _ _ _ _ HF2.out]; rfl
  have hc5 : (w.alloc (.cells #[.int .i64 3, .string i, .string f, .string g, .string y, .int .i64 a, .int .i64 d, .string t] 85 (0, 0))).cell? ⟨w.heap.size, 1, none⟩ = some (.string i) := by rw [cell_of_row _ _ _ _ _ _ HF2.out]; rfl
  have hc6 : (w.alloc (.cells #[.int .i64 3, .string i, .string f, .string g, .string y, .int .i64 a, .int .i64 d, .string t] 85 (0, 0))).cell? ⟨w.heap.size, 2, none⟩ = some (.string f) := by rw [cell_of_row _ _ _ _ _ _ HF2.out]; rfl
  have hc7 : (w.alloc (.cells #[.int .i64 3, .string i, .string f, .string g, .string y, .int .i64 a, .int .i64 d, .string t] 85 (0, 0))).cell? ⟨w.heap.size, 3, none⟩ = some (.string g) := by rw [cell_of_row _ _ _ _ _ _ HF2.out]; rfl
  have hc8 : (w.alloc (.cells #[.int .i64 3, .string i, .string f, .string g, .string y, .int .i64 a, .int .i64 d, .string t] 85 (0, 0))).cell? ⟨w.heap.size, 4, none⟩ = some (.string y) := by rw [cell_of_row _ _ _ _ _ _ HF2.out]; rfl
  have hc9 : (w.alloc (.cells #[.int .i64 3, .string i, .string f, .string g, .string y, .int .i64 a, .int .i64 d, .string t] 85 (0, 0))).cell? ⟨w.heap.size, 5, none⟩ = some (.int .i64 a) := by rw [cell_of_row _ _ _ _ _ _ HF2.out]; rfl
  have hc10 : (w.alloc (.cells #[.int .i64 3, .string i, .string f, .string g, .string y, .int .i64 a, .int .i64 d, .string t] 85 (0, 0))).cell? ⟨w.heap.size, 6, none⟩ = some (.int .i64 d) := by rw [cell_of_row _ _ _ _ _ _ HF2.out]; rfl
  have hc11 : (w.alloc (.cells #[.int .i64 3, .string i, .string f, .string g, .string y, .int .i64 a, .int .i64 d, .string t] 85 (0, 0))).cell? ⟨w.heap.size, 7, none⟩ = some (.string t) := by rw [cell_of_row _ _ _ _ _ _ HF2.out]; rfl
  have HF12 := Lib.hid (blk_alloc HF2.out (.cells #[.string i] 9 (0, 0)))
  clear HF2
  have HF13 : Hid (((w.alloc (.cells #[.int .i64 3, .string i, .string f, .string g, .string y, .int .i64 a, .int .i64 d, .string t] 85 (0, 0))).alloc (.cells #[.string i] 9 (0, 0))).heap[w.heap.size + 1]? = some (.cells #[.string i] 9 (0, 0))) := Lib.hid (blk_newN (W := (w.alloc (.cells #[.int .i64 3, .string i, .string f, .string g, .string y, .int .i64 a, .int .i64 d, .string t] 85 (0, 0)))) (o := (.cells #[.string i] 9 (0, 0))) (by simp))
  have HB14 := Lib.hid (HB3.out.alloc (by have := HB3.out.size; simp at this ⊢ <;> omega) (.cells #[.string i] 9 (0, 0)))
  clear HB3
  have hc15 : ((w.alloc (.cells #[.int .i64 3, .string i, .string f, .string g, .string y, .int .i64 a, .int .i64 d, .string t] 85 (0, 0))).alloc (.cells #[.string i] 9 (0, 0))).cell? ⟨w.heap.size, 0, none⟩ = some (.int .i64 3) := by rw [cell_of_row _ _ _ _ _ _ HF12.out]; rfl
  have hc16 : ((w.alloc (.cells #[.int .i64 3, .string i, .string f, .string g, .string y, .int .i64 a, .int .i64 d, .string t] 85 (0, 0))).alloc (.cells #[.string i] 9 (0, 0))).cell? ⟨w.heap.size, 1, none⟩ = some (.string i) := by rw [cell_of_row _ _ _ _ _ _ HF12.out]; rfl
  have hc17 : ((w.alloc (.cells #[.int .i64 3, .string i, .string f, .string g, .string y, .int .i64 a, .int .i64 d, .string t] 85 (0, 0))).alloc (.cells #[.string i] 9 (0, 0))).cell? ⟨w.heap.size, 2, none⟩ = some (.string f) := by rw [cell_of_row _ _ _ _ _ _ HF12.out]; rfl
  have hc18 : ((w.alloc (.cells #[.int .i64 3, .string i, .string f, .string g, .string y, .int .i64 a, .int .i64 d, .string t] 85 (0, 0))).alloc (.cells #[.string i] 9 (0, 0))).cell? ⟨w.heap.size, 3, none⟩ = some (.string g) := by rw [cell_of_row _ _ _ _ _ _ HF12.out]; rfl
  have hc19 : ((w.alloc (.cells #[.int .i64 3, .string i, .string f, .string g, .string y, .int .i64 a, .int .i64 d, .string t] 85 (0, 0))).alloc (.cells #[.string i] 9 (0, 0))).cell? ⟨w.heap.size, 4, none⟩ = some (.string y) := by rw [cell_of_row _ _ _ _ _ _ HF12.out]; rfl
  have hc20 : ((w.alloc (.cells #[.int .i64 3, .string i, .string f, .string g, .string y, .int .i64 a, .int .i64 d, .string t] 85 (0, 0))).alloc (.cells #[.string i] 9 (0, 0))).cell? ⟨w.heap.size, 5, none⟩ = some (.int .i64 a) := by rw [cell_of_row _ _ _ _ _ _ HF12.out]; rfl
  have hc21 : ((w.alloc (.cells #[.int .i64 3, .string i, .string f, .string g, .string y, .int .i64 a, .int .i64 d, .string t] 85 (0, 0))).alloc (.cells #[.string i] 9 (0, 0))).cell? ⟨w.heap.size, 6, none⟩ = some (.int .i64 d) := by rw [cell_of_row _ _ _ _ _ _ HF12.out]; rfl
  have hc22 : ((w.alloc (.cells #[.int .i64 3, .string i, .string f, .string g, .string y, .int .i64 a, .int .i64 d, .string t] 85 (0, 0))).alloc (.cells #[.string i] 9 (0, 0))).cell? ⟨w.heap.size, 7, none⟩ = some (.string t) := by rw [cell_of_row _ _ _ _ _ _ HF12.out]; rfl
  have HF23 := Lib.hid (blk_alloc HF12.out (.cells #[.string f, .string g] 9 (0, 0)))
  clear HF12
  have HF24 := Lib.hid (blk_alloc HF13.out (.cells #[.string f, .string g] 9 (0, 0)))
  clear HF13
  have HF25 : Hid ((((w.alloc (.cells #[.int .i64 3, .string i, .string f, .string g, .string y, .int .i64 a, .int .i64 d, .string t] 85 (0, 0))).alloc (.cells #[.string i] 9 (0, 0))).alloc (.cells #[.string f, .string g] 9 (0, 0))).heap[w.heap.size + 2]? = some (.cells #[.string f, .string g] 9 (0, 0))) := Lib.hid (blk_newN (W := ((w.alloc (.cells #[.int .i64 3, .string i, .string f, .string g, .string y, .int .i64 a, .int .i64 d, .string t] 85 (0, 0))).alloc (.cells #[.string i] 9 (0, 0)))) (o := (.cells #[.string f, .string g] 9 (0, 0))) (by simp))
  have HB26 := Lib.hid (HB14.out.alloc (by have := HB14.out.size; simp at this ⊢ <;> omega) (.cells #[.string f, .string g] 9 (0, 0)))
  clear HB14
  have hc27 : (((w.alloc (.cells #[.int .i64 3, .string i, .string f, .string g, .string y, .int .i64 a, .int .i64 d, .string t] 85 (0, 0))).alloc (.cells #[.string i] 9 (0, 0))).alloc (.cells #[.string f, .string g] 9 (0, 0))).cell? ⟨w.heap.size, 0, none⟩ = some (.int .i64 3) := by rw [cell_of_row _ _ _ _ _ _ HF23.out]; rfl
  have hc28 : (((w.alloc (.cells #[.int .i64 3, .string i, .string f, .string g, .string y, .int .i64 a, .int .i64 d, .string t] 85 (0, 0))).alloc (.cells #[.string i] 9 (0, 0))).alloc (.cells #[.string f, .string g] 9 (0, 0))).cell? ⟨w.heap.size, 1, none⟩ = some (.string i) := by rw [cell_of_row _ _ _ _ _ _ HF23.out]; rfl
  have hc29 : (((w.alloc (.cells #[.int .i64 3, .string i, .string f, .string g, .string y, .int .i64 a, .int .i64 d, .string t] 85 (0, 0))).alloc (.cells #[.string i] 9 (0, 0))).alloc (.cells #[.string f, .string g] 9 (0, 0))).cell? ⟨w.heap.size, 2, none⟩ = some (.string f) := by rw [cell_of_row _ _ _ _ _ _ HF23.out]; rfl
  have hc30 : (((w.alloc (.cells #[.int .i64 3, .string i, .string f, .string g, .string y, .int .i64 a, .int .i64 d, .string t] 85 (0, 0))).alloc (.cells #[.string i] 9 (0, 0))).alloc (.cells #[.string f, .string g] 9 (0, 0))).cell? ⟨w.heap.size, 3, none⟩ = some (.string g) := by rw [cell_of_row _ _ _ _ _ _ HF23.out]; rfl
  have hc31 : (((w.alloc (.cells #[.int .i64 3, .string i, .string f, .string g, .string y, .int .i64 a, .int .i64 d, .string t] 85 (0, 0))).alloc (.cells #[.string i] 9 (0, 0))).alloc (.cells #[.string f, .string g] 9 (0, 0))).cell? ⟨w.heap.size, 4, none⟩ = some (.string y) := by rw [cell_of_row _ _ _ _ _ _ HF23.out]; rfl
  have hc32 : (((w.alloc (.cells #[.int .i64 3, .string i, .string f, .string g, .string y, .int .i64 a, .int .i64 d, .string t] 85 (0, 0))).alloc (.cells #[.string i] 9 (0, 0))).alloc (.cells #[.string f, .string g] 9 (0, 0))).cell? ⟨w.heap.size, 5, none⟩ = some (.int .i64 a) := by rw [cell_of_row _ _ _ _ _ _ HF23.out]; rfl
  have hc33 : (((w.alloc (.cells #[.int .i64 3, .string i, .string f, .string g, .string y, .int .i64 a, .int .i64 d, .string t] 85 (0, 0))).alloc (.cells #[.string i] 9 (0, 0))).alloc (.cells #[.string f, .string g] 9 (0, 0))).cell? ⟨w.heap.size, 6, none⟩ = some (.int .i64 d) := by rw [cell_of_row _ _ _ _ _ _ HF23.out]; rfl
  have hc34 : (((w.alloc (.cells #[.int .i64 3, .string i, .string f, .string g, .string y, .int .i64 a, .int .i64 d, .string t] 85 (0, 0))).alloc (.cells #[.string i] 9 (0, 0))).alloc (.cells #[.string f, .string g] 9 (0, 0))).cell? ⟨w.heap.size, 7, none⟩ = some (.string t) := by rw [cell_of_row _ _ _ _ _ _ HF23.out]; rfl
  go_wp2_with (at_builtin; refine wpList_appXs rfl (.tmp 19) (.tmp 24) 42 9 _ 16 rfl Try.underlying42 info_stA rfl (by omega) (by omega) stC_len stC_one w.heap.size w HB26.out (by simp <;> omega) _ [i] rfl (ow_blk (f := stC) (s := 1) [i] HF24.out (by omega) rfl rfl (by unfold maxLen; simp)) (some ⟨w.heap.size + 2, 0, none⟩) 2 2 [f, g] rfl (rd_blk (f := stC) (s := 1) (fun _ => rfl) [f, g] HF25.out rfl) (by simp) ?_)
  intro v2 w2 HO2 HB2 HZ2 HG2
  clear hc4 hc5 hc6 hc7 hc8 hc9 hc10 hc11 hc15 hc16 hc17 hc18 hc19 hc20 hc21 hc22 hc27 hc28 hc29 hc30 hc31 hc32 hc33 hc34
  obtain ⟨A3, c3, hv3, hrd, _, _⟩ := HO2.out.rd stC_len
  obtain ⟨b3, o3, hA3, _, _⟩ := hrd.2 (by simp)
  have hv3 : v2 = .slice A3 3 c3 := hv3
  subst hv3 hA3
  have HR3 := Lib.hid hrd
  clear hrd
  go_wp2_with fail
  obtain ⟨L, hL⟩ : ∃ L : List ByteArray, L = [i, f, g] := ⟨_, rfl⟩
  have HRD := Lib.hid (show RdX stC 1 w2 (some ⟨b3, o3, none⟩) 3 L by rw [hL]; exact HR3.out)
  have HSZ : Hid (∀ s ∈ L, s.size ≤ maxLen) := Lib.hid (by rw [hL]; intro s hs; simp at hs; rcases hs with rfl | rfl | rfl <;> assumption)
  have HLN := Lib.hid (show L.length = 3 by rw [hL]; rfl)
  have HEV := Lib.hid (show (if L.all nm = true then (0 : Int) else 2) = rightE (rightB 3 i f g y a d t) by rw [hL]; unfold rightE rightB; simp)
  clear hL
  go_loop [53] (fun j => ∃ q : Nat, j = .int .i64 (q : Int) ∧ q ≤ 3 ∧ Hid ((L.take q).all nm = true)) (fun j => 3 - (intOf j).toNat)
  case atStart => exact ⟨0, rfl, Nat.zero_le _, Lib.hid rfl⟩
  case round =>
    obtain ⟨q, rfl, hq, HI⟩ := hrel
    by_cases hlt : q < 3
    · have hd1 : decide ((q : Int) < 3) = true := decide_eq_true (by omega)
      have hl : q < L.length := by rw [HLN.out]; exact hlt
      have HX := Lib.hid (List.getElem?_eq_getElem hl)
      have hsz := HSZ.out _ (List.getElem_mem hl)
      have HAT := Lib.hid (List.take_succ_eq_append_getElem hl)
      have HMEM := Lib.hid (List.getElem_mem hl)
      obtain ⟨s, hs⟩ : ∃ s, s = L[q] := ⟨_, rfl⟩
      rw [← hs] at HX hsz HAT HMEM
      clear hs
      have hc : w2.cell? ⟨b3, o3 + q, none⟩ = some (.string s) := by have h := HRD.out.cellAt HX.out (by omega) 0 _ rfl; simpa using h
      have hi0 : (0 : Int) ≤ (q : Int) := by omega
      have hi1 : (q : Int) < 3 := by omega
      have HC := Lib.hid (fun W : World => ncheck_any s W hsz)
      cases hn : nm s with
      | false =>
        have HE := Lib.hid (show (2 : Int) = rightE (rightB 3 i f g y a d t) by
          rw [← HEV.out, if_neg]
          intro h
          rw [List.all_eq_true.1 h s HMEM.out] at hn
          cases hn)
        rw [nck_no s hn] at HC
        clear hn
        go_wp2_with fail
        refine (HC.out _).mono ?_
        rintro e w' ⟨rfl, rfl⟩
        go_wp2_with fail
        go_ret
        exact ⟨retI HE.out, HB2.out⟩
      | true =>
        have HJ := Lib.hid (show (L.take (q + 1)).all nm = true by rw [HAT.out, List.all_append, HI.out]; simp [hn])
        rw [nck_yes s hn] at HC
        clear hn
        go_wp2_with fail
        refine (HC.out _).mono ?_
        rintro e w' ⟨rfl, rfl⟩
        go_wp2_with fail
        go_round
        case rel => exact ⟨q + 1, by go_num, by omega, HJ⟩
        case measure => simp [intOf] <;> omega
    · have hd1 : decide ((q : Int) < 3) = false := decide_eq_false (by omega)
      have HE := Lib.hid (show (0 : Int) = rightE (rightB 3 i f g y a d t) by rw [← HEV.out, if_pos]; rw [← List.take_of_length_le (l := L) (i := q) (by rw [HLN.out]; omega)]; exact HI.out)
      go_wp2_with fail
      go_ret
      exact ⟨retI HE.out, HB2.out⟩
set_option maxRecDepth 100000 in
set_option maxHeartbeats 4000000 in
theorem gright_4 (i f g y : ByteArray) (a d : Int) (t : ByteArray) (w : World) (hi : i.size ≤ maxLen) (_hf : f.size ≤ maxLen) (_hg : g.size ≤ maxLen) (_hy : y.size ≤ maxLen) :
    Calls Try.prog 48 #[.agg #[.int .i64 4, .string i, .string f, .string g, .string y, .int .i64 a, .int .i64 d, .string t]] w fun e w' => e = .returned (.int .i64 (rightE (rightB 4 i f g y a d t))) ∧ Below w.heap.size w w' := by
  have HB1 := Lib.hid (Below.refl w.heap.size w)
  go_enter Try.func48, Try.ntmps48
  have HF2 := Lib.hid (blk_new w (.cells #[.int .i64 4, .string i, .string f, .string g, .string y, .int .i64 a, .int .i64 d, .string t] 85 (0, 0)))
  have HB3 := Lib.hid (HB1.out.alloc HB1.out.size (.cells #[.int .i64 4, .string i, .string f, .string g, .string y, .int .i64 a, .int .i64 d, .string t] 85 (0, 0)))
  clear HB1
  have hc4 : (w.alloc (.cells #[.int .i64 4, .string i, .string f, .string g, .string y, .int .i64 a, .int .i64 d, .string t] 85 (0, 0))).cell? ⟨w.heap.size, 0, none⟩ = some (.int .i64 4) := by rw [cell_of_row _ _ _ _ _ _ HF2.out]; rfl
  have hc5 : (w.alloc (.cells #[.int .i64 4, .string i, .string f, .string g, .string y, .int .i64 a, .int .i64 d, .string t] 85 (0, 0))).cell? ⟨w.heap.size, 1, none⟩ = some (.string i) := by rw [cell_of_row _ _ _ _ _ _ HF2.out]; rfl
  have hc6 : (w.alloc (.cells #[.int .i64 4, .string i, .string f, .string g, .string y, .int .i64 a, .int .i64 d, .string t] 85 (0, 0))).cell? ⟨w.heap.size, 2, none⟩ = some (.string f) := by rw [cell_of_row _ _ _ _ _ _ HF2.out]; rfl
  have hc7 : (w.alloc (.cells #[.int .i64 4, .string i, .string f, .string g, .string y, .int .i64 a, .int .i64 d, .string t] 85 (0, 0))).cell? ⟨w.heap.size, 3, none⟩ = some (.string g) := by rw [cell_of_row _ _ _ _ _ _ HF2.out]; rfl
  have hc8 : (w.alloc (.cells #[.int .i64 4, .string i, .string f, .string g, .string y, .int .i64 a, .int .i64 d, .string t] 85 (0, 0))).cell? ⟨w.heap.size, 4, none⟩ = some (.string y) := by rw [cell_of_row _ _ _ _ _ _ HF2.out]; rfl
  have hc9 : (w.alloc (.cells #[.int .i64 4, .string i, .string f, .string g, .string y, .int .i64 a, .int .i64 d, .string t] 85 (0, 0))).cell? ⟨w.heap.size, 5, none⟩ = some (.int .i64 a) := by rw [cell_of_row _ _ _ _ _ _ HF2.out]; rfl
  have hc10 : (w.alloc (.cells #[.int .i64 4, .string i, .string f, .string g, .string y, .int .i64 a, .int .i64 d, .string t] 85 (0, 0))).cell? ⟨w.heap.size, 6, none⟩ = some (.int .i64 d) := by rw [cell_of_row _ _ _ _ _ _ HF2.out]; rfl
  have hc11 : (w.alloc (.cells #[.int .i64 4, .string i, .string f, .string g, .string y, .int .i64 a, .int .i64 d, .string t] 85 (0, 0))).cell? ⟨w.heap.size, 7, none⟩ = some (.string t) := by rw [cell_of_row _ _ _ _ _ _ HF2.out]; rfl
  have HF12 := Lib.hid (blk_alloc HF2.out (.cells #[.string i] 9 (0, 0)))
  clear HF2
  have HF13 : Hid (((w.alloc (.cells #[.int .i64 4, .string i, .string f, .string g, .string y, .int .i64 a, .int .i64 d, .string t] 85 (0, 0))).alloc (.cells #[.string i] 9 (0, 0))).heap[w.heap.size + 1]? = some (.cells #[.string i] 9 (0, 0))) := Lib.hid (blk_newN (W := (w.alloc (.cells #[.int .i64 4, .string i, .string f, .string g, .string y, .int .i64 a, .int .i64 d, .string t] 85 (0, 0)))) (o := (.cells #[.string i] 9 (0, 0))) (by simp))
  have HB14 := Lib.hid (HB3.out.alloc (by have := HB3.out.size; simp at this ⊢ <;> omega) (.cells #[.string i] 9 (0, 0)))
  clear HB3
  have hc15 : ((w.alloc (.cells #[.int .i64 4, .string i, .string f, .string g, .string y, .int .i64 a, .int .i64 d, .string t] 85 (0, 0))).alloc (.cells #[.string i] 9 (0, 0))).cell? ⟨w.heap.size, 0, none⟩ = some (.int .i64 4) := by rw [cell_of_row _ _ _ _ _ _ HF12.out]; rfl
  have hc16 : ((w.alloc (.cells #[.int .i64 4, .string i, .string f, .string g, .string y, .int .i64 a, .int .i64 d, .string t] 85 (0, 0))).alloc (.cells #[.string i] 9 (0, 0))).cell? ⟨w.heap.size, 1, none⟩ = some (.string i) := by rw [cell_of_row _ _ _ _ _ _ HF12.out]; rfl
  have hc17 : ((w.alloc (.cells #[.int .i64 4, .string i, .string f, .string g, .string y, .int .i64 a, .int .i64 d, .string t] 85 (0, 0))).alloc (.cells #[.string i] 9 (0, 0))).cell? ⟨w.heap.size, 2, none⟩ = some (.string f) := by rw [cell_of_row _ _ _ _ _ _ HF12.out]; rfl
  have hc18 : ((w.alloc (.cells #[.int .i64 4, .string i, .string f, .string g, .string y, .int .i64 a, .int .i64 d, .string t] 85 (0, 0))).alloc (.cells #[.string i] 9 (0, 0))).cell? ⟨w.heap.size, 3, none⟩ = some (.string g) := by rw [cell_of_row _ _ _ _ _ _ HF12.out]; rfl
  have hc19 : ((w.alloc (.cells #[.int .i64 4, .string i, .string f, .string g, .string y, .int .i64 a, .int .i64 d, .string t] 85 (0, 0))).alloc (.cells #[.string i] 9 (0, 0))).cell? ⟨w.heap.size, 4, none⟩ = some (.string y) := by rw [cell_of_row _ _ _ _ _ _ HF12.out]; rfl
  have hc20 : ((w.alloc (.cells #[.int .i64 4, .string i, .string f, .string g, .string y, .int .i64 a, .int .i64 d, .string t] 85 (0, 0))).alloc (.cells #[.string i] 9 (0, 0))).cell? ⟨w.heap.size, 5, none⟩ = some (.int .i64 a) := by rw [cell_of_row _ _ _ _ _ _ HF12.out]; rfl
  have hc21 : ((w.alloc (.cells #[.int .i64 4, .string i, .string f, .string g, .string y, .int .i64 a, .int .i64 d, .string t] 85 (0, 0))).alloc (.cells #[.string i] 9 (0, 0))).cell? ⟨w.heap.size, 6, none⟩ = some (.int .i64 d) := by rw [cell_of_row _ _ _ _ _ _ HF12.out]; rfl
  have hc22 : ((w.alloc (.cells #[.int .i64 4, .string i, .string f, .string g, .string y, .int .i64 a, .int .i64 d, .string t] 85 (0, 0))).alloc (.cells #[.string i] 9 (0, 0))).cell? ⟨w.heap.size, 7, none⟩ = some (.string t) := by rw [cell_of_row _ _ _ _ _ _ HF12.out]; rfl
  go_wp2_with fail
  clear hc4 hc5 hc6 hc7 hc8 hc9 hc10 hc11 hc15 hc16 hc17 hc18 hc19 hc20 hc21 hc22
  obtain ⟨L, hL⟩ : ∃ L : List ByteArray, L = [i] := ⟨_, rfl⟩
  have HRD := Lib.hid (show RdX stC 1 ((w.alloc (.cells #[.int .i64 4, .string i, .string f, .string g, .string y, .int .i64 a, .int .i64 d, .string t] 85 (0, 0))).alloc (.cells #[.string i] 9 (0, 0))) (some ⟨w.heap.size + 1, 0, none⟩) 1 L by rw [hL]; exact rd_blk (f := stC) (s := 1) (fun _ => rfl) [i] HF13.out rfl)
  have HSZ : Hid (∀ s ∈ L, s.size ≤ maxLen) := Lib.hid (by rw [hL]; intro s hs; simp at hs; rcases hs with rfl <;> assumption)
  have HLN := Lib.hid (show L.length = 1 by rw [hL]; rfl)
  have HEV := Lib.hid (show (if L.all nm = true then (0 : Int) else 2) = rightE (rightB 4 i f g y a d t) by rw [hL]; unfold rightE rightB; simp)
  clear hL
  go_loop [53] (fun j => ∃ q : Nat, j = .int .i64 (q : Int) ∧ q ≤ 1 ∧ Hid ((L.take q).all nm = true)) (fun j => 1 - (intOf j).toNat)
  case atStart => exact ⟨0, rfl, Nat.zero_le _, Lib.hid rfl⟩
  case round =>
    obtain ⟨q, rfl, hq, HI⟩ := hrel
    by_cases hlt : q < 1
    · have hd1 : decide ((q : Int) < 1) = true := decide_eq_true (by omega)
      have hl : q < L.length := by rw [HLN.out]; exact hlt
      have HX := Lib.hid (List.getElem?_eq_getElem hl)
      have hsz := HSZ.out _ (List.getElem_mem hl)
      have HAT := Lib.hid (List.take_succ_eq_append_getElem hl)
      have HMEM := Lib.hid (List.getElem_mem hl)
      obtain ⟨s, hs⟩ : ∃ s, s = L[q] := ⟨_, rfl⟩
      rw [← hs] at HX hsz HAT HMEM
      clear hs
      have hc : ((w.alloc (.cells #[.int .i64 4, .string i, .string f, .string g, .string y, .int .i64 a, .int .i64 d, .string t] 85 (0, 0))).alloc (.cells #[.string i] 9 (0, 0))).cell? ⟨w.heap.size + 1, q, none⟩ = some (.string s) := by have h := HRD.out.cellAt HX.out (by omega) 0 _ rfl; simpa using h
      have hi0 : (0 : Int) ≤ (q : Int) := by omega
      have hi1 : (q : Int) < 1 := by omega
      have HC := Lib.hid (fun W : World => ncheck_any s W hsz)
      cases hn : nm s with
      | false =>
        have HE := Lib.hid (show (2 : Int) = rightE (rightB 4 i f g y a d t) by
          rw [← HEV.out, if_neg]
          intro h
          rw [List.all_eq_true.1 h s HMEM.out] at hn
          cases hn)
        rw [nck_no s hn] at HC
        clear hn
        go_wp2_with fail
        refine (HC.out _).mono ?_
        rintro e w' ⟨rfl, rfl⟩
        go_wp2_with fail
        go_ret
        exact ⟨retI HE.out, HB14.out⟩
      | true =>
        have HJ := Lib.hid (show (L.take (q + 1)).all nm = true by rw [HAT.out, List.all_append, HI.out]; simp [hn])
        rw [nck_yes s hn] at HC
        clear hn
        go_wp2_with fail
        refine (HC.out _).mono ?_
        rintro e w' ⟨rfl, rfl⟩
        go_wp2_with fail
        go_round
        case rel => exact ⟨q + 1, by go_num, by omega, HJ⟩
        case measure => simp [intOf] <;> omega
    · have hd1 : decide ((q : Int) < 1) = false := decide_eq_false (by omega)
      have HE := Lib.hid (show (0 : Int) = rightE (rightB 4 i f g y a d t) by rw [← HEV.out, if_pos]; rw [← List.take_of_length_le (l := L) (i := q) (by rw [HLN.out]; omega)]; exact HI.out)
      go_wp2_with fail
      go_ret
      exact ⟨retI HE.out, HB14.out⟩
set_option maxRecDepth 100000 in
set_option maxHeartbeats 4000000 in
theorem gright_5 (i f g y : ByteArray) (a d : Int) (t : ByteArray) (w : World) (hi : i.size ≤ maxLen) (_hf : f.size ≤ maxLen) (_hg : g.size ≤ maxLen) (hy : y.size ≤ maxLen) :
    Calls Try.prog 48 #[.agg #[.int .i64 5, .string i, .string f, .string g, .string y, .int .i64 a, .int .i64 d, .string t]] w fun e w' => e = .returned (.int .i64 (rightE (rightB 5 i f g y a d t))) ∧ Below w.heap.size w w' := by
  have HB1 := Lib.hid (Below.refl w.heap.size w)
  go_enter Try.func48, Try.ntmps48
  have HF2 := Lib.hid (blk_new w (.cells #[.int .i64 5, .string i, .string f, .string g, .string y, .int .i64 a, .int .i64 d, .string t] 85 (0, 0)))
  have HB3 := Lib.hid (HB1.out.alloc HB1.out.size (.cells #[.int .i64 5, .string i, .string f, .string g, .string y, .int .i64 a, .int .i64 d, .string t] 85 (0, 0)))
  clear HB1
  have hc4 : (w.alloc (.cells #[.int .i64 5, .string i, .string f, .string g, .string y, .int .i64 a, .int .i64 d, .string t] 85 (0, 0))).cell? ⟨w.heap.size, 0, none⟩ = some (.int .i64 5) := by rw [cell_of_row _ _ _ _ _ _ HF2.out]; rfl
  have hc5 : (w.alloc (.cells #[.int .i64 5, .string i, .string f, .string g, .string y, .int .i64 a, .int .i64 d, .string t] 85 (0, 0))).cell? ⟨w.heap.size, 1, none⟩ = some (.string i) := by rw [cell_of_row _ _ _ _ _ _ HF2.out]; rfl
  have hc6 : (w.alloc (.cells #[.int .i64 5, .string i, .string f, .string g, .string y, .int .i64 a, .int .i64 d, .string t] 85 (0, 0))).cell? ⟨w.heap.size, 2, none⟩ = some (.string f) := by rw [cell_of_row _ _ _ _ _ _ HF2.out]; rfl
  have hc7 : (w.alloc (.cells #[.int .i64 5, .string i, .string f, .string g, .string y, .int .i64 a, .int .i64 d, .string t] 85 (0, 0))).cell? ⟨w.heap.size, 3, none⟩ = some (.string g) := by rw [cell_of_row _ _ _ _ _ _ HF2.out]; rfl
  have hc8 : (w.alloc (.cells #[.int .i64 5, .string i, .string f, .string g, .string y, .int .i64 a, .int .i64 d, .string t] 85 (0, 0))).cell? ⟨w.heap.size, 4, none⟩ = some (.string y) := by rw [cell_of_row _ _ _ _ _ _ HF2.out]; rfl
  have hc9 : (w.alloc (.cells #[.int .i64 5, .string i, .string f, .string g, .string y, .int .i64 a, .int .i64 d, .string t] 85 (0, 0))).cell? ⟨w.heap.size, 5, none⟩ = some (.int .i64 a) := by rw [cell_of_row _ _ _ _ _ _ HF2.out]; rfl
  have hc10 : (w.alloc (.cells #[.int .i64 5, .string i, .string f, .string g, .string y, .int .i64 a, .int .i64 d, .string t] 85 (0, 0))).cell? ⟨w.heap.size, 6, none⟩ = some (.int .i64 d) := by rw [cell_of_row _ _ _ _ _ _ HF2.out]; rfl
  have hc11 : (w.alloc (.cells #[.int .i64 5, .string i, .string f, .string g, .string y, .int .i64 a, .int .i64 d, .string t] 85 (0, 0))).cell? ⟨w.heap.size, 7, none⟩ = some (.string t) := by rw [cell_of_row _ _ _ _ _ _ HF2.out]; rfl
  have HF12 := Lib.hid (blk_alloc HF2.out (.cells #[.string i] 9 (0, 0)))
  clear HF2
  have HF13 : Hid (((w.alloc (.cells #[.int .i64 5, .string i, .string f, .string g, .string y, .int .i64 a, .int .i64 d, .string t] 85 (0, 0))).alloc (.cells #[.string i] 9 (0, 0))).heap[w.heap.size + 1]? = some (.cells #[.string i] 9 (0, 0))) := Lib.hid (blk_newN (W := (w.alloc (.cells #[.int .i64 5, .string i, .string f, .string g, .string y, .int .i64 a, .int .i64 d, .string t] 85 (0, 0)))) (o := (.cells #[.string i] 9 (0, 0))) (by simp))
  have HB14 := Lib.hid (HB3.out.alloc (by have := HB3.out.size; simp at this ⊢ <;> omega) (.cells #[.string i] 9 (0, 0)))
  clear HB3
  have hc15 : ((w.alloc (.cells #[.int .i64 5, .string i, .string f, .string g, .string y, .int .i64 a, .int .i64 d, .string t] 85 (0, 0))).alloc (.cells #[.string i] 9 (0, 0))).cell? ⟨w.heap.size, 0, none⟩ = some (.int .i64 5) := by rw [cell_of_row _ _ _ _ _ _ HF12.out]; rfl
  have hc16 : ((w.alloc (.cells #[.int .i64 5, .string i, .string f, .string g, .string y, .int .i64 a, .int .i64 d, .string t] 85 (0, 0))).alloc (.cells #[.string i] 9 (0, 0))).cell? ⟨w.heap.size, 1, none⟩ = some (.string i) := by rw [cell_of_row _ _ _ _ _ _ HF12.out]; rfl
  have hc17 : ((w.alloc (.cells #[.int .i64 5, .string i, .string f, .string g, .string y, .int .i64 a, .int .i64 d, .string t] 85 (0, 0))).alloc (.cells #[.string i] 9 (0, 0))).cell? ⟨w.heap.size, 2, none⟩ = some (.string f) := by rw [cell_of_row _ _ _ _ _ _ HF12.out]; rfl
  have hc18 : ((w.alloc (.cells #[.int .i64 5, .string i, .string f, .string g, .string y, .int .i64 a, .int .i64 d, .string t] 85 (0, 0))).alloc (.cells #[.string i] 9 (0, 0))).cell? ⟨w.heap.size, 3, none⟩ = some (.string g) := by rw [cell_of_row _ _ _ _ _ _ HF12.out]; rfl
  have hc19 : ((w.alloc (.cells #[.int .i64 5, .string i, .string f, .string g, .string y, .int .i64 a, .int .i64 d, .string t] 85 (0, 0))).alloc (.cells #[.string i] 9 (0, 0))).cell? ⟨w.heap.size, 4, none⟩ = some (.string y) := by rw [cell_of_row _ _ _ _ _ _ HF12.out]; rfl
  have hc20 : ((w.alloc (.cells #[.int .i64 5, .string i, .string f, .string g, .string y, .int .i64 a, .int .i64 d, .string t] 85 (0, 0))).alloc (.cells #[.string i] 9 (0, 0))).cell? ⟨w.heap.size, 5, none⟩ = some (.int .i64 a) := by rw [cell_of_row _ _ _ _ _ _ HF12.out]; rfl
  have hc21 : ((w.alloc (.cells #[.int .i64 5, .string i, .string f, .string g, .string y, .int .i64 a, .int .i64 d, .string t] 85 (0, 0))).alloc (.cells #[.string i] 9 (0, 0))).cell? ⟨w.heap.size, 6, none⟩ = some (.int .i64 d) := by rw [cell_of_row _ _ _ _ _ _ HF12.out]; rfl
  have hc22 : ((w.alloc (.cells #[.int .i64 5, .string i, .string f, .string g, .string y, .int .i64 a, .int .i64 d, .string t] 85 (0, 0))).alloc (.cells #[.string i] 9 (0, 0))).cell? ⟨w.heap.size, 7, none⟩ = some (.string t) := by rw [cell_of_row _ _ _ _ _ _ HF12.out]; rfl
  have HF23 := Lib.hid (blk_alloc HF12.out (.cells #[.string y] 9 (0, 0)))
  clear HF12
  have HF24 := Lib.hid (blk_alloc HF13.out (.cells #[.string y] 9 (0, 0)))
  clear HF13
  have HF25 : Hid ((((w.alloc (.cells #[.int .i64 5, .string i, .string f, .string g, .string y, .int .i64 a, .int .i64 d, .string t] 85 (0, 0))).alloc (.cells #[.string i] 9 (0, 0))).alloc (.cells #[.string y] 9 (0, 0))).heap[w.heap.size + 2]? = some (.cells #[.string y] 9 (0, 0))) := Lib.hid (blk_newN (W := ((w.alloc (.cells #[.int .i64 5, .string i, .string f, .string g, .string y, .int .i64 a, .int .i64 d, .string t] 85 (0, 0))).alloc (.cells #[.string i] 9 (0, 0)))) (o := (.cells #[.string y] 9 (0, 0))) (by simp))
  have HB26 := Lib.hid (HB14.out.alloc (by have := HB14.out.size; simp at this ⊢ <;> omega) (.cells #[.string y] 9 (0, 0)))
  clear HB14
  have hc27 : (((w.alloc (.cells #[.int .i64 5, .string i, .string f, .string g, .string y, .int .i64 a, .int .i64 d, .string t] 85 (0, 0))).alloc (.cells #[.string i] 9 (0, 0))).alloc (.cells #[.string y] 9 (0, 0))).cell? ⟨w.heap.size, 0, none⟩ = some (.int .i64 5) := by rw [cell_of_row _ _ _ _ _ _ HF23.out]; rfl
  have hc28 : (((w.alloc (.cells #[.int .i64 5, .string i, .string f, .string g, .string y, .int .i64 a, .int .i64 d, .string t] 85 (0, 0))).alloc (.cells #[.string i] 9 (0, 0))).alloc (.cells #[.string y] 9 (0, 0))).cell? ⟨w.heap.size, 1, none⟩ = some (.string i) := by rw [cell_of_row _ _ _ _ _ _ HF23.out]; rfl
  have hc29 : (((w.alloc (.cells #[.int .i64 5, .string i, .string f, .string g, .string y, .int .i64 a, .int .i64 d, .string t] 85 (0, 0))).alloc (.cells #[.string i] 9 (0, 0))).alloc (.cells #[.string y] 9 (0, 0))).cell? ⟨w.heap.size, 2, none⟩ = some (.string f) := by rw [cell_of_row _ _ _ _ _ _ HF23.out]; rfl
  have hc30 : (((w.alloc (.cells #[.int .i64 5, .string i, .string f, .string g, .string y, .int .i64 a, .int .i64 d, .string t] 85 (0, 0))).alloc (.cells #[.string i] 9 (0, 0))).alloc (.cells #[.string y] 9 (0, 0))).cell? ⟨w.heap.size, 3, none⟩ = some (.string g) := by rw [cell_of_row _ _ _ _ _ _ HF23.out]; rfl
  have hc31 : (((w.alloc (.cells #[.int .i64 5, .string i, .string f, .string g, .string y, .int .i64 a, .int .i64 d, .string t] 85 (0, 0))).alloc (.cells #[.string i] 9 (0, 0))).alloc (.cells #[.string y] 9 (0, 0))).cell? ⟨w.heap.size, 4, none⟩ = some (.string y) := by rw [cell_of_row _ _ _ _ _ _ HF23.out]; rfl
  have hc32 : (((w.alloc (.cells #[.int .i64 5, .string i, .string f, .string g, .string y, .int .i64 a, .int .i64 d, .string t] 85 (0, 0))).alloc (.cells #[.string i] 9 (0, 0))).alloc (.cells #[.string y] 9 (0, 0))).cell? ⟨w.heap.size, 5, none⟩ = some (.int .i64 a) := by rw [cell_of_row _ _ _ _ _ _ HF23.out]; rfl
  have hc33 : (((w.alloc (.cells #[.int .i64 5, .string i, .string f, .string g, .string y, .int .i64 a, .int .i64 d, .string t] 85 (0, 0))).alloc (.cells #[.string i] 9 (0, 0))).alloc (.cells #[.string y] 9 (0, 0))).cell? ⟨w.heap.size, 6, none⟩ = some (.int .i64 d) := by rw [cell_of_row _ _ _ _ _ _ HF23.out]; rfl
  have hc34 : (((w.alloc (.cells #[.int .i64 5, .string i, .string f, .string g, .string y, .int .i64 a, .int .i64 d, .string t] 85 (0, 0))).alloc (.cells #[.string i] 9 (0, 0))).alloc (.cells #[.string y] 9 (0, 0))).cell? ⟨w.heap.size, 7, none⟩ = some (.string t) := by rw [cell_of_row _ _ _ _ _ _ HF23.out]; rfl
  go_wp2_with (at_builtin; refine wpList_appXs rfl (.tmp 33) (.tmp 36) 42 9 _ 16 rfl Try.underlying42 info_stA rfl (by omega) (by omega) stC_len stC_one w.heap.size w HB26.out (by simp <;> omega) _ [i] rfl (ow_blk (f := stC) (s := 1) [i] HF24.out (by omega) rfl rfl (by unfold maxLen; simp)) (some ⟨w.heap.size + 2, 0, none⟩) 1 1 [y] rfl (rd_blk (f := stC) (s := 1) (fun _ => rfl) [y] HF25.out rfl) (by simp) ?_)
  intro v2 w2 HO2 HB2 HZ2 HG2
  clear hc4 hc5 hc6 hc7 hc8 hc9 hc10 hc11 hc15 hc16 hc17 hc18 hc19 hc20 hc21 hc22 hc27 hc28 hc29 hc30 hc31 hc32 hc33 hc34
  obtain ⟨A3, c3, hv3, hrd, _, _⟩ := HO2.out.rd stC_len
  obtain ⟨b3, o3, hA3, _, _⟩ := hrd.2 (by simp)
  have hv3 : v2 = .slice A3 2 c3 := hv3
  subst hv3 hA3
  have HR3 := Lib.hid hrd
  clear hrd
  go_wp2_with fail
  obtain ⟨L, hL⟩ : ∃ L : List ByteArray, L = [i, y] := ⟨_, rfl⟩
  have HRD := Lib.hid (show RdX stC 1 w2 (some ⟨b3, o3, none⟩) 2 L by rw [hL]; exact HR3.out)
  have HSZ : Hid (∀ s ∈ L, s.size ≤ maxLen) := Lib.hid (by rw [hL]; intro s hs; simp at hs; rcases hs with rfl | rfl <;> assumption)
  have HLN := Lib.hid (show L.length = 2 by rw [hL]; rfl)
  have HEV := Lib.hid (show (if L.all nm = true then (0 : Int) else 2) = rightE (rightB 5 i f g y a d t) by rw [hL]; unfold rightE rightB; simp)
  clear hL
  go_loop [53] (fun j => ∃ q : Nat, j = .int .i64 (q : Int) ∧ q ≤ 2 ∧ Hid ((L.take q).all nm = true)) (fun j => 2 - (intOf j).toNat)
  case atStart => exact ⟨0, rfl, Nat.zero_le _, Lib.hid rfl⟩
  case round =>
    obtain ⟨q, rfl, hq, HI⟩ := hrel
    by_cases hlt : q < 2
    · have hd1 : decide ((q : Int) < 2) = true := decide_eq_true (by omega)
      have hl : q < L.length := by rw [HLN.out]; exact hlt
      have HX := Lib.hid (List.getElem?_eq_getElem hl)
      have hsz := HSZ.out _ (List.getElem_mem hl)
      have HAT := Lib.hid (List.take_succ_eq_append_getElem hl)
      have HMEM := Lib.hid (List.getElem_mem hl)
      obtain ⟨s, hs⟩ : ∃ s, s = L[q] := ⟨_, rfl⟩
      rw [← hs] at HX hsz HAT HMEM
      clear hs
      have hc : w2.cell? ⟨b3, o3 + q, none⟩ = some (.string s) := by have h := HRD.out.cellAt HX.out (by omega) 0 _ rfl; simpa using h
      have hi0 : (0 : Int) ≤ (q : Int) := by omega
      have hi1 : (q : Int) < 2 := by omega
      have HC := Lib.hid (fun W : World => ncheck_any s W hsz)
      cases hn : nm s with
      | false =>
        have HE := Lib.hid (show (2 : Int) = rightE (rightB 5 i f g y a d t) by
          rw [← HEV.out, if_neg]
          intro h
          rw [List.all_eq_true.1 h s HMEM.out] at hn
          cases hn)
        rw [nck_no s hn] at HC
        clear hn
        go_wp2_with fail
        refine (HC.out _).mono ?_
        rintro e w' ⟨rfl, rfl⟩
        go_wp2_with fail
        go_ret
        exact ⟨retI HE.out, HB2.out⟩
      | true =>
        have HJ := Lib.hid (show (L.take (q + 1)).all nm = true by rw [HAT.out, List.all_append, HI.out]; simp [hn])
        rw [nck_yes s hn] at HC
        clear hn
        go_wp2_with fail
        refine (HC.out _).mono ?_
        rintro e w' ⟨rfl, rfl⟩
        go_wp2_with fail
        go_round
        case rel => exact ⟨q + 1, by go_num, by omega, HJ⟩
        case measure => simp [intOf] <;> omega
    · have hd1 : decide ((q : Int) < 2) = false := decide_eq_false (by omega)
      have HE := Lib.hid (show (0 : Int) = rightE (rightB 5 i f g y a d t) by rw [← HEV.out, if_pos]; rw [← List.take_of_length_le (l := L) (i := q) (by rw [HLN.out]; omega)]; exact HI.out)
      go_wp2_with fail
      go_ret
      exact ⟨retI HE.out, HB2.out⟩
set_option maxRecDepth 100000 in
set_option maxHeartbeats 4000000 in
theorem gright_6 (i f g y : ByteArray) (a d : Int) (t : ByteArray) (w : World) (hi : i.size ≤ maxLen) (_hf : f.size ≤ maxLen) (_hg : g.size ≤ maxLen) (hy : y.size ≤ maxLen) :
    Calls Try.prog 48 #[.agg #[.int .i64 6, .string i, .string f, .string g, .string y, .int .i64 a, .int .i64 d, .string t]] w fun e w' => e = .returned (.int .i64 (rightE (rightB 6 i f g y a d t))) ∧ Below w.heap.size w w' := by
  have HB1 := Lib.hid (Below.refl w.heap.size w)
  go_enter Try.func48, Try.ntmps48
  have HF2 := Lib.hid (blk_new w (.cells #[.int .i64 6, .string i, .string f, .string g, .string y, .int .i64 a, .int .i64 d, .string t] 85 (0, 0)))
  have HB3 := Lib.hid (HB1.out.alloc HB1.out.size (.cells #[.int .i64 6, .string i, .string f, .string g, .string y, .int .i64 a, .int .i64 d, .string t] 85 (0, 0)))
  clear HB1
  have hc4 : (w.alloc (.cells #[.int .i64 6, .string i, .string f, .string g, .string y, .int .i64 a, .int .i64 d, .string t] 85 (0, 0))).cell? ⟨w.heap.size, 0, none⟩ = some (.int .i64 6) := by rw [cell_of_row _ _ _ _ _ _ HF2.out]; rfl
  have hc5 : (w.alloc (.cells #[.int .i64 6, .string i, .string f, .string g, .string y, .int .i64 a, .int .i64 d, .string t] 85 (0, 0))).cell? ⟨w.heap.size, 1, none⟩ = some (.string i) := by rw [cell_of_row _ _ _ _ _ _ HF2.out]; rfl
  have hc6 : (w.alloc (.cells #[.int .i64 6, .string i, .string f, .string g, .string y, .int .i64 a, .int .i64 d, .string t] 85 (0, 0))).cell? ⟨w.heap.size, 2, none⟩ = some (.string f) := by rw [cell_of_row _ _ _ _ _ _ HF2.out]; rfl
  have hc7 : (w.alloc (.cells #[.int .i64 6, .string i, .string f, .string g, .string y, .int .i64 a, .int .i64 d, .string t] 85 (0, 0))).cell? ⟨w.heap.size, 3, none⟩ = some (.string g) := by rw [cell_of_row _ _ _ _ _ _ HF2.out]; rfl
  have hc8 : (w.alloc (.cells #[.int .i64 6, .string i, .string f, .string g, .string y, .int .i64 a, .int .i64 d, .string t] 85 (0, 0))).cell? ⟨w.heap.size, 4, none⟩ = some (.string y) := by rw [cell_of_row _ _ _ _ _ _ HF2.out]; rfl
  have hc9 : (w.alloc (.cells #[.int .i64 6, .string i, .string f, .string g, .string y, .int .i64 a, .int .i64 d, .string t] 85 (0, 0))).cell? ⟨w.heap.size, 5, none⟩ = some (.int .i64 a) := by rw [cell_of_row _ _ _ _ _ _ HF2.out]; rfl
  have hc10 : (w.alloc (.cells #[.int .i64 6, .string i, .string f, .string g, .string y, .int .i64 a, .int .i64 d, .string t] 85 (0, 0))).cell? ⟨w.heap.size, 6, none⟩ = some (.int .i64 d) := by rw [cell_of_row _ _ _ _ _ _ HF2.out]; rfl
  have hc11 : (w.alloc (.cells #[.int .i64 6, .string i, .string f, .string g, .string y, .int .i64 a, .int .i64 d, .string t] 85 (0, 0))).cell? ⟨w.heap.size, 7, none⟩ = some (.string t) := by rw [cell_of_row _ _ _ _ _ _ HF2.out]; rfl
  have HF12 := Lib.hid (blk_alloc HF2.out (.cells #[.string i] 9 (0, 0)))
  clear HF2
  have HF13 : Hid (((w.alloc (.cells #[.int .i64 6, .string i, .string f, .string g, .string y, .int .i64 a, .int .i64 d, .string t] 85 (0, 0))).alloc (.cells #[.string i] 9 (0, 0))).heap[w.heap.size + 1]? = some (.cells #[.string i] 9 (0, 0))) := Lib.hid (blk_newN (W := (w.alloc (.cells #[.int .i64 6, .string i, .string f, .string g, .string y, .int .i64 a, .int .i64 d, .string t] 85 (0, 0)))) (o := (.cells #[.string i] 9 (0, 0))) (by simp))
  have HB14 := Lib.hid (HB3.out.alloc (by have := HB3.out.size; simp at this ⊢ <;> omega) (.cells #[.string i] 9 (0, 0)))
  clear HB3
  have hc15 : ((w.alloc (.cells #[.int .i64 6, .string i, .string f, .string g, .string y, .int .i64 a, .int .i64 d, .string t] 85 (0, 0))).alloc (.cells #[.string i] 9 (0, 0))).cell? ⟨w.heap.size, 0, none⟩ = some (.int .i64 6) := by rw [cell_of_row _ _ _ _ _ _ HF12.out]; rfl
  have hc16 : ((w.alloc (.cells #[.int .i64 6, .string i, .string f, .string g, .string y, .int .i64 a, .int .i64 d, .string t] 85 (0, 0))).alloc (.cells #[.string i] 9 (0, 0))).cell? ⟨w.heap.size, 1, none⟩ = some (.string i) := by rw [cell_of_row _ _ _ _ _ _ HF12.out]; rfl
  have hc17 : ((w.alloc (.cells #[.int .i64 6, .string i, .string f, .string g, .string y, .int .i64 a, .int .i64 d, .string t] 85 (0, 0))).alloc (.cells #[.string i] 9 (0, 0))).cell? ⟨w.heap.size, 2, none⟩ = some (.string f) := by rw [cell_of_row _ _ _ _ _ _ HF12.out]; rfl
  have hc18 : ((w.alloc (.cells #[.int .i64 6, .string i, .string f, .string g, .string y, .int .i64 a, .int .i64 d, .string t] 85 (0, 0))).alloc (.cells #[.string i] 9 (0, 0))).cell? ⟨w.heap.size, 3, none⟩ = some (.string g) := by rw [cell_of_row _ _ _ _ _ _ HF12.out]; rfl
  have hc19 : ((w.alloc (.cells #[.int .i64 6, .string i, .string f, .string g, .string y, .int .i64 a, .int .i64 d, .string t] 85 (0, 0))).alloc (.cells #[.string i] 9 (0, 0))).cell? ⟨w.heap.size, 4, none⟩ = some (.string y) := by rw [cell_of_row _ _ _ _ _ _ HF12.out]; rfl
  have hc20 : ((w.alloc (.cells #[.int .i64 6, .string i, .string f, .string g, .string y, .int .i64 a, .int .i64 d, .string t] 85 (0, 0))).alloc (.cells #[.string i] 9 (0, 0))).cell? ⟨w.heap.size, 5, none⟩ = some (.int .i64 a) := by rw [cell_of_row _ _ _ _ _ _ HF12.out]; rfl
  have hc21 : ((w.alloc (.cells #[.int .i64 6, .string i, .string f, .string g, .string y, .int .i64 a, .int .i64 d, .string t] 85 (0, 0))).alloc (.cells #[.string i] 9 (0, 0))).cell? ⟨w.heap.size, 6, none⟩ = some (.int .i64 d) := by rw [cell_of_row _ _ _ _ _ _ HF12.out]; rfl
  have hc22 : ((w.alloc (.cells #[.int .i64 6, .string i, .string f, .string g, .string y, .int .i64 a, .int .i64 d, .string t] 85 (0, 0))).alloc (.cells #[.string i] 9 (0, 0))).cell? ⟨w.heap.size, 7, none⟩ = some (.string t) := by rw [cell_of_row _ _ _ _ _ _ HF12.out]; rfl
  have HF23 := Lib.hid (blk_alloc HF12.out (.cells #[.string y] 9 (0, 0)))
  clear HF12
  have HF24 := Lib.hid (blk_alloc HF13.out (.cells #[.string y] 9 (0, 0)))
  clear HF13
  have HF25 : Hid ((((w.alloc (.cells #[.int .i64 6, .string i, .string f, .string g, .string y, .int .i64 a, .int .i64 d, .string t] 85 (0, 0))).alloc (.cells #[.string i] 9 (0, 0))).alloc (.cells #[.string y] 9 (0, 0))).heap[w.heap.size + 2]? = some (.cells #[.string y] 9 (0, 0))) := Lib.hid (blk_newN (W := ((w.alloc (.cells #[.int .i64 6, .string i, .string f, .string g, .string y, .int .i64 a, .int .i64 d, .string t] 85 (0, 0))).alloc (.cells #[.string i] 9 (0, 0)))) (o := (.cells #[.string y] 9 (0, 0))) (by simp))
  have HB26 := Lib.hid (HB14.out.alloc (by have := HB14.out.size; simp at this ⊢ <;> omega) (.cells #[.string y] 9 (0, 0)))
  clear HB14
  have hc27 : (((w.alloc (.cells #[.int .i64 6, .string i, .string f, .string g, .string y, .int .i64 a, .int .i64 d, .string t] 85 (0, 0))).alloc (.cells #[.string i] 9 (0, 0))).alloc (.cells #[.string y] 9 (0, 0))).cell? ⟨w.heap.size, 0, none⟩ = some (.int .i64 6) := by rw [cell_of_row _ _ _ _ _ _ HF23.out]; rfl
  have hc28 : (((w.alloc (.cells #[.int .i64 6, .string i, .string f, .string g, .string y, .int .i64 a, .int .i64 d, .string t] 85 (0, 0))).alloc (.cells #[.string i] 9 (0, 0))).alloc (.cells #[.string y] 9 (0, 0))).cell? ⟨w.heap.size, 1, none⟩ = some (.string i) := by rw [cell_of_row _ _ _ _ _ _ HF23.out]; rfl
  have hc29 : (((w.alloc (.cells #[.int .i64 6, .string i, .string f, .string g, .string y, .int .i64 a, .int .i64 d, .string t] 85 (0, 0))).alloc (.cells #[.string i] 9 (0, 0))).alloc (.cells #[.string y] 9 (0, 0))).cell? ⟨w.heap.size, 2, none⟩ = some (.string f) := by rw [cell_of_row _ _ _ _ _ _ HF23.out]; rfl
  have hc30 : (((w.alloc (.cells #[.int .i64 6, .string i, .string f, .string g, .string y, .int .i64 a, .int .i64 d, .string t] 85 (0, 0))).alloc (.cells #[.string i] 9 (0, 0))).alloc (.cells #[.string y] 9 (0, 0))).cell? ⟨w.heap.size, 3, none⟩ = some (.string g) := by rw [cell_of_row _ _ _ _ _ _ HF23.out]; rfl
  have hc31 : (((w.alloc (.cells #[.int .i64 6, .string i, .string f, .string g, .string y, .int .i64 a, .int .i64 d, .string t] 85 (0, 0))).alloc (.cells #[.string i] 9 (0, 0))).alloc (.cells #[.string y] 9 (0, 0))).cell? ⟨w.heap.size, 4, none⟩ = some (.string y) := by rw [cell_of_row _ _ _ _ _ _ HF23.out]; rfl
  have hc32 : (((w.alloc (.cells #[.int .i64 6, .string i, .string f, .string g, .string y, .int .i64 a, .int .i64 d, .string t] 85 (0, 0))).alloc (.cells #[.string i] 9 (0, 0))).alloc (.cells #[.string y] 9 (0, 0))).cell? ⟨w.heap.size, 5, none⟩ = some (.int .i64 a) := by rw [cell_of_row _ _ _ _ _ _ HF23.out]; rfl
  have hc33 : (((w.alloc (.cells #[.int .i64 6, .string i, .string f, .string g, .string y, .int .i64 a, .int .i64 d, .string t] 85 (0, 0))).alloc (.cells #[.string i] 9 (0, 0))).alloc (.cells #[.string y] 9 (0, 0))).cell? ⟨w.heap.size, 6, none⟩ = some (.int .i64 d) := by rw [cell_of_row _ _ _ _ _ _ HF23.out]; rfl
  have hc34 : (((w.alloc (.cells #[.int .i64 6, .string i, .string f, .string g, .string y, .int .i64 a, .int .i64 d, .string t] 85 (0, 0))).alloc (.cells #[.string i] 9 (0, 0))).alloc (.cells #[.string y] 9 (0, 0))).cell? ⟨w.heap.size, 7, none⟩ = some (.string t) := by rw [cell_of_row _ _ _ _ _ _ HF23.out]; rfl
  go_wp2_with (at_builtin; refine wpList_appXs rfl (.tmp 33) (.tmp 36) 42 9 _ 16 rfl Try.underlying42 info_stA rfl (by omega) (by omega) stC_len stC_one w.heap.size w HB26.out (by simp <;> omega) _ [i] rfl (ow_blk (f := stC) (s := 1) [i] HF24.out (by omega) rfl rfl (by unfold maxLen; simp)) (some ⟨w.heap.size + 2, 0, none⟩) 1 1 [y] rfl (rd_blk (f := stC) (s := 1) (fun _ => rfl) [y] HF25.out rfl) (by simp) ?_)
  intro v2 w2 HO2 HB2 HZ2 HG2
  clear hc4 hc5 hc6 hc7 hc8 hc9 hc10 hc11 hc15 hc16 hc17 hc18 hc19 hc20 hc21 hc22 hc27 hc28 hc29 hc30 hc31 hc32 hc33 hc34
  obtain ⟨A3, c3, hv3, hrd, _, _⟩ := HO2.out.rd stC_len
  obtain ⟨b3, o3, hA3, _, _⟩ := hrd.2 (by simp)
  have hv3 : v2 = .slice A3 2 c3 := hv3
  subst hv3 hA3
  have HR3 := Lib.hid hrd
  clear hrd
  go_wp2_with fail
  obtain ⟨L, hL⟩ : ∃ L : List ByteArray, L = [i, y] := ⟨_, rfl⟩
  have HRD := Lib.hid (show RdX stC 1 w2 (some ⟨b3, o3, none⟩) 2 L by rw [hL]; exact HR3.out)
  have HSZ : Hid (∀ s ∈ L, s.size ≤ maxLen) := Lib.hid (by rw [hL]; intro s hs; simp at hs; rcases hs with rfl | rfl <;> assumption)
  have HLN := Lib.hid (show L.length = 2 by rw [hL]; rfl)
  have HEV := Lib.hid (show (if L.all nm = true then (0 : Int) else 2) = rightE (rightB 6 i f g y a d t) by rw [hL]; unfold rightE rightB; simp)
  clear hL
  go_loop [53] (fun j => ∃ q : Nat, j = .int .i64 (q : Int) ∧ q ≤ 2 ∧ Hid ((L.take q).all nm = true)) (fun j => 2 - (intOf j).toNat)
  case atStart => exact ⟨0, rfl, Nat.zero_le _, Lib.hid rfl⟩
  case round =>
    obtain ⟨q, rfl, hq, HI⟩ := hrel
    by_cases hlt : q < 2
    · have hd1 : decide ((q : Int) < 2) = true := decide_eq_true (by omega)
      have hl : q < L.length := by rw [HLN.out]; exact hlt
      have HX := Lib.hid (List.getElem?_eq_getElem hl)
      have hsz := HSZ.out _ (List.getElem_mem hl)
      have HAT := Lib.hid (List.take_succ_eq_append_getElem hl)
      have HMEM := Lib.hid (List.getElem_mem hl)
      obtain ⟨s, hs⟩ : ∃ s, s = L[q] := ⟨_, rfl⟩
      rw [← hs] at HX hsz HAT HMEM
      clear hs
      have hc : w2.cell? ⟨b3, o3 + q, none⟩ = some (.string s) := by have h := HRD.out.cellAt HX.out (by omega) 0 _ rfl; simpa using h
      have hi0 : (0 : Int) ≤ (q : Int) := by omega
      have hi1 : (q : Int) < 2 := by omega
      have HC := Lib.hid (fun W : World => ncheck_any s W hsz)
      cases hn : nm s with
      | false =>
        have HE := Lib.hid (show (2 : Int) = rightE (rightB 6 i f g y a d t) by
          rw [← HEV.out, if_neg]
          intro h
          rw [List.all_eq_true.1 h s HMEM.out] at hn
          cases hn)
        rw [nck_no s hn] at HC
        clear hn
        go_wp2_with fail
        refine (HC.out _).mono ?_
        rintro e w' ⟨rfl, rfl⟩
        go_wp2_with fail
        go_ret
        exact ⟨retI HE.out, HB2.out⟩
      | true =>
        have HJ := Lib.hid (show (L.take (q + 1)).all nm = true by rw [HAT.out, List.all_append, HI.out]; simp [hn])
        rw [nck_yes s hn] at HC
        clear hn
        go_wp2_with fail
        refine (HC.out _).mono ?_
        rintro e w' ⟨rfl, rfl⟩
        go_wp2_with fail
        go_round
        case rel => exact ⟨q + 1, by go_num, by omega, HJ⟩
        case measure => simp [intOf] <;> omega
    · have hd1 : decide ((q : Int) < 2) = false := decide_eq_false (by omega)
      have HE := Lib.hid (show (0 : Int) = rightE (rightB 6 i f g y a d t) by rw [← HEV.out, if_pos]; rw [← List.take_of_length_le (l := L) (i := q) (by rw [HLN.out]; omega)]; exact HI.out)
      go_wp2_with fail
      go_ret
      exact ⟨retI HE.out, HB2.out⟩
set_option maxRecDepth 100000 in
set_option maxHeartbeats 4000000 in
theorem gright_7 (i f g y : ByteArray) (a d : Int) (t : ByteArray) (w : World) (hi : i.size ≤ maxLen) (_hf : f.size ≤ maxLen) (_hg : g.size ≤ maxLen) (hy : y.size ≤ maxLen) :
    Calls Try.prog 48 #[.agg #[.int .i64 7, .string i, .string f, .string g, .string y, .int .i64 a, .int .i64 d, .string t]] w fun e w' => e = .returned (.int .i64 (rightE (rightB 7 i f g y a d t))) ∧ Below w.heap.size w w' := by
  have HB1 := Lib.hid (Below.refl w.heap.size w)
  go_enter Try.func48, Try.ntmps48
  have HF2 := Lib.hid (blk_new w (.cells #[.int .i64 7, .string i, .string f, .string g, .string y, .int .i64 a, .int .i64 d, .string t] 85 (0, 0)))
  have HB3 := Lib.hid (HB1.out.alloc HB1.out.size (.cells #[.int .i64 7, .string i, .string f, .string g, .string y, .int .i64 a, .int .i64 d, .string t] 85 (0, 0)))
  clear HB1
  have hc4 : (w.alloc (.cells #[.int .i64 7, .string i, .string f, .string g, .string y, .int .i64 a, .int .i64 d, .string t] 85 (0, 0))).cell? ⟨w.heap.size, 0, none⟩ = some (.int .i64 7) := by rw [cell_of_row _ _ _ _ _ _ HF2.out]; rfl
  have hc5 : (w.alloc (.cells #[.int .i64 7, .string i, .string f, .string g, .string y, .int .i64 a, .int .i64 d, .string t] 85 (0, 0))).cell? ⟨w.heap.size, 1, none⟩ = some (.string i) := by rw [cell_of_row _ _ _ _ _ _ HF2.out]; rfl
  have hc6 : (w.alloc (.cells #[.int .i64 7, .string i, .string f, .string g, .string y, .int .i64 a, .int .i64 d, .string t] 85 (0, 0))).cell? ⟨w.heap.size, 2, none⟩ = some (.string f) := by rw [cell_of_row _ _ _ _ _ _ HF2.out]; rfl
  have hc7 : (w.alloc (.cells #[.int .i64 7, .string i, .string f, .string g, .string y, .int .i64 a, .int .i64 d, .string t] 85 (0, 0))).cell? ⟨w.heap.size, 3, none⟩ = some (.string g) := by rw [cell_of_row _ _ _ _ _ _ HF2.out]; rfl
  have hc8 : (w.alloc (.cells #[.int .i64 7, .string i, .string f, .string g, .string y, .int .i64 a, .int .i64 d, .string t] 85 (0, 0))).cell? ⟨w.heap.size, 4, none⟩ = some (.string y) := by rw [cell_of_row _ _ _ _ _ _ HF2.out]; rfl
  have hc9 : (w.alloc (.cells #[.int .i64 7, .string i, .string f, .string g, .string y, .int .i64 a, .int .i64 d, .string t] 85 (0, 0))).cell? ⟨w.heap.size, 5, none⟩ = some (.int .i64 a) := by rw [cell_of_row _ _ _ _ _ _ HF2.out]; rfl
  have hc10 : (w.alloc (.cells #[.int .i64 7, .string i, .string f, .string g, .string y, .int .i64 a, .int .i64 d, .string t] 85 (0, 0))).cell? ⟨w.heap.size, 6, none⟩ = some (.int .i64 d) := by rw [cell_of_row _ _ _ _ _ _ HF2.out]; rfl
  have hc11 : (w.alloc (.cells #[.int .i64 7, .string i, .string f, .string g, .string y, .int .i64 a, .int .i64 d, .string t] 85 (0, 0))).cell? ⟨w.heap.size, 7, none⟩ = some (.string t) := by rw [cell_of_row _ _ _ _ _ _ HF2.out]; rfl
  have HF12 := Lib.hid (blk_alloc HF2.out (.cells #[.string i] 9 (0, 0)))
  clear HF2
  have HF13 : Hid (((w.alloc (.cells #[.int .i64 7, .string i, .string f, .string g, .string y, .int .i64 a, .int .i64 d, .string t] 85 (0, 0))).alloc (.cells #[.string i] 9 (0, 0))).heap[w.heap.size + 1]? = some (.cells #[.string i] 9 (0, 0))) := Lib.hid (blk_newN (W := (w.alloc (.cells #[.int .i64 7, .string i, .string f, .string g, .string y, .int .i64 a, .int .i64 d, .string t] 85 (0, 0)))) (o := (.cells #[.string i] 9 (0, 0))) (by simp))
  have HB14 := Lib.hid (HB3.out.alloc (by have := HB3.out.size; simp at this ⊢ <;> omega) (.cells #[.string i] 9 (0, 0)))
  clear HB3
  have hc15 : ((w.alloc (.cells #[.int .i64 7, .string i, .string f, .string g, .string y, .int .i64 a, .int .i64 d, .string t] 85 (0, 0))).alloc (.cells #[.string i] 9 (0, 0))).cell? ⟨w.heap.size, 0, none⟩ = some (.int .i64 7) := by rw [cell_of_row _ _ _ _ _ _ HF12.out]; rfl
  have hc16 : ((w.alloc (.cells #[.int .i64 7, .string i, .string f, .string g, .string y, .int .i64 a, .int .i64 d, .string t] 85 (0, 0))).alloc (.cells #[.string i] 9 (0, 0))).cell? ⟨w.heap.size, 1, none⟩ = some (.string i) := by rw [cell_of_row _ _ _ _ _ _ HF12.out]; rfl
  have hc17 : ((w.alloc (.cells #[.int .i64 7, .string i, .string f, .string g, .string y, .int .i64 a, .int .i64 d, .string t] 85 (0, 0))).alloc (.cells #[.string i] 9 (0, 0))).cell? ⟨w.heap.size, 2, none⟩ = some (.string f) := by rw [cell_of_row _ _ _ _ _ _ HF12.out]; rfl
  have hc18 : ((w.alloc (.cells #[.int .i64 7, .string i, .string f, .string g, .string y, .int .i64 a, .int .i64 d, .string t] 85 (0, 0))).alloc (.cells #[.string i] 9 (0, 0))).cell? ⟨w.heap.size, 3, none⟩ = some (.string g) := by rw [cell_of_row _ _ _ _ _ _ HF12.out]; rfl
  have hc19 : ((w.alloc (.cells #[.int .i64 7, .string i, .string f, .string g, .string y, .int .i64 a, .int .i64 d, .string t] 85 (0, 0))).alloc (.cells #[.string i] 9 (0, 0))).cell? ⟨w.heap.size, 4, none⟩ = some (.string y) := by rw [cell_of_row _ _ _ _ _ _ HF12.out]; rfl
  have hc20 : ((w.alloc (.cells #[.int .i64 7, .string i, .string f, .string g, .string y, .int .i64 a, .int .i64 d, .string t] 85 (0, 0))).alloc (.cells #[.string i] 9 (0, 0))).cell? ⟨w.heap.size, 5, none⟩ = some (.int .i64 a) := by rw [cell_of_row _ _ _ _ _ _ HF12.out]; rfl
  have hc21 : ((w.alloc (.cells #[.int .i64 7, .string i, .string f, .string g, .string y, .int .i64 a, .int .i64 d, .string t] 85 (0, 0))).alloc (.cells #[.string i] 9 (0, 0))).cell? ⟨w.heap.size, 6, none⟩ = some (.int .i64 d) := by rw [cell_of_row _ _ _ _ _ _ HF12.out]; rfl
  have hc22 : ((w.alloc (.cells #[.int .i64 7, .string i, .string f, .string g, .string y, .int .i64 a, .int .i64 d, .string t] 85 (0, 0))).alloc (.cells #[.string i] 9 (0, 0))).cell? ⟨w.heap.size, 7, none⟩ = some (.string t) := by rw [cell_of_row _ _ _ _ _ _ HF12.out]; rfl
  have HF23 := Lib.hid (blk_alloc HF12.out (.cells #[.string y] 9 (0, 0)))
  clear HF12
  have HF24 := Lib.hid (blk_alloc HF13.out (.cells #[.string y] 9 (0, 0)))
  clear HF13
  have HF25 : Hid ((((w.alloc (.cells #[.int .i64 7, .string i, .string f, .string g, .string y, .int .i64 a, .int .i64 d, .string t] 85 (0, 0))).alloc (.cells #[.string i] 9 (0, 0))).alloc (.cells #[.string y] 9 (0, 0))).heap[w.heap.size + 2]? = some (.cells #[.string y] 9 (0, 0))) := Lib.hid (blk_newN (W := ((w.alloc (.cells #[.int .i64 7, .string i, .string f, .string g, .string y, .int .i64 a, .int .i64 d, .string t] 85 (0, 0))).alloc (.cells #[.string i] 9 (0, 0)))) (o := (.cells #[.string y] 9 (0, 0))) (by simp))
  have HB26 := Lib.hid (HB14.out.alloc (by have := HB14.out.size; simp at this ⊢ <;> omega) (.cells #[.string y] 9 (0, 0)))
  clear HB14
  have hc27 : (((w.alloc (.cells #[.int .i64 7, .string i, .string f, .string g, .string y, .int .i64 a, .int .i64 d, .string t] 85 (0, 0))).alloc (.cells #[.string i] 9 (0, 0))).alloc (.cells #[.string y] 9 (0, 0))).cell? ⟨w.heap.size, 0, none⟩ = some (.int .i64 7) := by rw [cell_of_row _ _ _ _ _ _ HF23.out]; rfl
  have hc28 : (((w.alloc (.cells #[.int .i64 7, .string i, .string f, .string g, .string y, .int .i64 a, .int .i64 d, .string t] 85 (0, 0))).alloc (.cells #[.string i] 9 (0, 0))).alloc (.cells #[.string y] 9 (0, 0))).cell? ⟨w.heap.size, 1, none⟩ = some (.string i) := by rw [cell_of_row _ _ _ _ _ _ HF23.out]; rfl
  have hc29 : (((w.alloc (.cells #[.int .i64 7, .string i, .string f, .string g, .string y, .int .i64 a, .int .i64 d, .string t] 85 (0, 0))).alloc (.cells #[.string i] 9 (0, 0))).alloc (.cells #[.string y] 9 (0, 0))).cell? ⟨w.heap.size, 2, none⟩ = some (.string f) := by rw [cell_of_row _ _ _ _ _ _ HF23.out]; rfl
  have hc30 : (((w.alloc (.cells #[.int .i64 7, .string i, .string f, .string g, .string y, .int .i64 a, .int .i64 d, .string t] 85 (0, 0))).alloc (.cells #[.string i] 9 (0, 0))).alloc (.cells #[.string y] 9 (0, 0))).cell? ⟨w.heap.size, 3, none⟩ = some (.string g) := by rw [cell_of_row _ _ _ _ _ _ HF23.out]; rfl
  have hc31 : (((w.alloc (.cells #[.int .i64 7, .string i, .string f, .string g, .string y, .int .i64 a, .int .i64 d, .string t] 85 (0, 0))).alloc (.cells #[.string i] 9 (0, 0))).alloc (.cells #[.string y] 9 (0, 0))).cell? ⟨w.heap.size, 4, none⟩ = some (.string y) := by rw [cell_of_row _ _ _ _ _ _ HF23.out]; rfl
  have hc32 : (((w.alloc (.cells #[.int .i64 7, .string i, .string f, .string g, .string y, .int .i64 a, .int .i64 d, .string t] 85 (0, 0))).alloc (.cells #[.string i] 9 (0, 0))).alloc (.cells #[.string y] 9 (0, 0))).cell? ⟨w.heap.size, 5, none⟩ = some (.int .i64 a) := by rw [cell_of_row _ _ _ _ _ _ HF23.out]; rfl
  have hc33 : (((w.alloc (.cells #[.int .i64 7, .string i, .string f, .string g, .string y, .int .i64 a, .int .i64 d, .string t] 85 (0, 0))).alloc (.cells #[.string i] 9 (0, 0))).alloc (.cells #[.string y] 9 (0, 0))).cell? ⟨w.heap.size, 6, none⟩ = some (.int .i64 d) := by rw [cell_of_row _ _ _ _ _ _ HF23.out]; rfl
  have hc34 : (((w.alloc (.cells #[.int .i64 7, .string i, .string f, .string g, .string y, .int .i64 a, .int .i64 d, .string t] 85 (0, 0))).alloc (.cells #[.string i] 9 (0, 0))).alloc (.cells #[.string y] 9 (0, 0))).cell? ⟨w.heap.size, 7, none⟩ = some (.string t) := by rw [cell_of_row _ _ _ _ _ _ HF23.out]; rfl
  go_wp2_with (at_builtin; refine wpList_appXs rfl (.tmp 33) (.tmp 36) 42 9 _ 16 rfl Try.underlying42 info_stA rfl (by omega) (by omega) stC_len stC_one w.heap.size w HB26.out (by simp <;> omega) _ [i] rfl (ow_blk (f := stC) (s := 1) [i] HF24.out (by omega) rfl rfl (by unfold maxLen; simp)) (some ⟨w.heap.size + 2, 0, none⟩) 1 1 [y] rfl (rd_blk (f := stC) (s := 1) (fun _ => rfl) [y] HF25.out rfl) (by simp) ?_)
  intro v2 w2 HO2 HB2 HZ2 HG2
  clear hc4 hc5 hc6 hc7 hc8 hc9 hc10 hc11 hc15 hc16 hc17 hc18 hc19 hc20 hc21 hc22 hc27 hc28 hc29 hc30 hc31 hc32 hc33 hc34
  obtain ⟨A3, c3, hv3, hrd, _, _⟩ := HO2.out.rd stC_len
  obtain ⟨b3, o3, hA3, _, _⟩ := hrd.2 (by simp)
  have hv3 : v2 = .slice A3 2 c3 := hv3
  subst hv3 hA3
  have HR3 := Lib.hid hrd
  clear hrd
  go_wp2_with fail
  obtain ⟨L, hL⟩ : ∃ L : List ByteArray, L = [i, y] := ⟨_, rfl⟩
  have HRD := Lib.hid (show RdX stC 1 w2 (some ⟨b3, o3, none⟩) 2 L by rw [hL]; exact HR3.out)
  have HSZ : Hid (∀ s ∈ L, s.size ≤ maxLen) := Lib.hid (by rw [hL]; intro s hs; simp at hs; rcases hs with rfl | rfl <;> assumption)
  have HLN := Lib.hid (show L.length = 2 by rw [hL]; rfl)
  have HEV := Lib.hid (show (if L.all nm = true then (0 : Int) else 2) = rightE (rightB 7 i f g y a d t) by rw [hL]; unfold rightE rightB; simp)
  clear hL
  go_loop [53] (fun j => ∃ q : Nat, j = .int .i64 (q : Int) ∧ q ≤ 2 ∧ Hid ((L.take q).all nm = true)) (fun j => 2 - (intOf j).toNat)
  case atStart => exact ⟨0, rfl, Nat.zero_le _, Lib.hid rfl⟩
  case round =>
    obtain ⟨q, rfl, hq, HI⟩ := hrel
    by_cases hlt : q < 2
    · have hd1 : decide ((q : Int) < 2) = true := decide_eq_true (by omega)
      have hl : q < L.length := by rw [HLN.out]; exact hlt
      have HX := Lib.hid (List.getElem?_eq_getElem hl)
      have hsz := HSZ.out _ (List.getElem_mem hl)
      have HAT := Lib.hid (List.take_succ_eq_append_getElem hl)
      have HMEM := Lib.hid (List.getElem_mem hl)
      obtain ⟨s, hs⟩ : ∃ s, s = L[q] := ⟨_, rfl⟩
      rw [← hs] at HX hsz HAT HMEM
      clear hs
      have hc : w2.cell? ⟨b3, o3 + q, none⟩ = some (.string s) := by have h := HRD.out.cellAt HX.out (by omega) 0 _ rfl; simpa using h
      have hi0 : (0 : Int) ≤ (q : Int) := by omega
      have hi1 : (q : Int) < 2 := by omega
      have HC := Lib.hid (fun W : World => ncheck_any s W hsz)
      cases hn : nm s with
      | false =>
        have HE := Lib.hid (show (2 : Int) = rightE (rightB 7 i f g y a d t) by
          rw [← HEV.out, if_neg]
          intro h
          rw [List.all_eq_true.1 h s HMEM.out] at hn
          cases hn)
        rw [nck_no s hn] at HC
        clear hn
        go_wp2_with fail
        refine (HC.out _).mono ?_
        rintro e w' ⟨rfl, rfl⟩
        go_wp2_with fail
        go_ret
        exact ⟨retI HE.out, HB2.out⟩
      | true =>
        have HJ := Lib.hid (show (L.take (q + 1)).all nm = true by rw [HAT.out, List.all_append, HI.out]; simp [hn])
        rw [nck_yes s hn] at HC
        clear hn
        go_wp2_with fail
        refine (HC.out _).mono ?_
        rintro e w' ⟨rfl, rfl⟩
        go_wp2_with fail
        go_round
        case rel => exact ⟨q + 1, by go_num, by omega, HJ⟩
        case measure => simp [intOf] <;> omega
    · have hd1 : decide ((q : Int) < 2) = false := decide_eq_false (by omega)
      have HE := Lib.hid (show (0 : Int) = rightE (rightB 7 i f g y a d t) by rw [← HEV.out, if_pos]; rw [← List.take_of_length_le (l := L) (i := q) (by rw [HLN.out]; omega)]; exact HI.out)
      go_wp2_with fail
      go_ret
      exact ⟨retI HE.out, HB2.out⟩
set_option maxRecDepth 100000 in
set_option maxHeartbeats 4000000 in
theorem gright_8 (i f g y : ByteArray) (a d : Int) (t : ByteArray) (w : World) (hi : i.size ≤ maxLen) (_hf : f.size ≤ maxLen) (_hg : g.size ≤ maxLen) (hy : y.size ≤ maxLen) :
    Calls Try.prog 48 #[.agg #[.int .i64 8, .string i, .string f, .string g, .string y, .int .i64 a, .int .i64 d, .string t]] w fun e w' => e = .returned (.int .i64 (rightE (rightB 8 i f g y a d t))) ∧ Below w.heap.size w w' := by
  have HB1 := Lib.hid (Below.refl w.heap.size w)
  go_enter Try.func48, Try.ntmps48
  have HF2 := Lib.hid (blk_new w (.cells #[.int .i64 8, .string i, .string f, .string g, .string y, .int .i64 a, .int .i64 d, .string t] 85 (0, 0)))
  have HB3 := Lib.hid (HB1.out.alloc HB1.out.size (.cells #[.int .i64 8, .string i, .string f, .string g, .string y, .int .i64 a, .int .i64 d, .string t] 85 (0, 0)))
  clear HB1
  have hc4 : (w.alloc (.cells #[.int .i64 8, .string i, .string f, .string g, .string y, .int .i64 a, .int .i64 d, .string t] 85 (0, 0))).cell? ⟨w.heap.size, 0, none⟩ = some (.int .i64 8) := by rw [cell_of_row _ _ _ _ _ _ HF2.out]; rfl
  have hc5 : (w.alloc (.cells #[.int .i64 8, .string i, .string f, .string g, .string y, .int .i64 a, .int .i64 d, .string t] 85 (0, 0))).cell? ⟨w.heap.size, 1, none⟩ = some (.string i) := by rw [cell_of_row _ _ _ _ _ _ HF2.out]; rfl
  have hc6 : (w.alloc (.cells #[.int .i64 8, .string i, .string f, .string g, .string y, .int .i64 a, .int .i64 d, .string t] 85 (0, 0))).cell? ⟨w.heap.size, 2, none⟩ = some (.string f) := by rw [cell_of_row _ _ _ _ _ _ HF2.out]; rfl
  have hc7 : (w.alloc (.cells #[.int .i64 8, .string i, .string f, .string g, .string y, .int .i64 a, .int .i64 d, .string t] 85 (0, 0))).cell? ⟨w.heap.size, 3, none⟩ = some (.string g) := by rw [cell_of_row _ _ _ _ _ _ HF2.out]; rfl
  have hc8 : (w.alloc (.cells #[.int .i64 8, .string i, .string f, .string g, .string y, .int .i64 a, .int .i64 d, .string t] 85 (0, 0))).cell? ⟨w.heap.size, 4, none⟩ = some (.string y) := by rw [cell_of_row _ _ _ _ _ _ HF2.out]; rfl
  have hc9 : (w.alloc (.cells #[.int .i64 8, .string i, .string f, .string g, .string y, .int .i64 a, .int .i64 d, .string t] 85 (0, 0))).cell? ⟨w.heap.size, 5, none⟩ = some (.int .i64 a) := by rw [cell_of_row _ _ _ _ _ _ HF2.out]; rfl
  have hc10 : (w.alloc (.cells #[.int .i64 8, .string i, .string f, .string g, .string y, .int .i64 a, .int .i64 d, .string t] 85 (0, 0))).cell? ⟨w.heap.size, 6, none⟩ = some (.int .i64 d) := by rw [cell_of_row _ _ _ _ _ _ HF2.out]; rfl
  have hc11 : (w.alloc (.cells #[.int .i64 8, .string i, .string f, .string g, .string y, .int .i64 a, .int .i64 d, .string t] 85 (0, 0))).cell? ⟨w.heap.size, 7, none⟩ = some (.string t) := by rw [cell_of_row _ _ _ _ _ _ HF2.out]; rfl
  have HF12 := Lib.hid (blk_alloc HF2.out (.cells #[.string i] 9 (0, 0)))
  clear HF2
  have HF13 : Hid (((w.alloc (.cells #[.int .i64 8, .string i, .string f, .string g, .string y, .int .i64 a, .int .i64 d, .string t] 85 (0, 0))).alloc (.cells #[.string i] 9 (0, 0))).heap[w.heap.size + 1]? = some (.cells #[.string i] 9 (0, 0))) := Lib.hid (blk_newN (W := (w.alloc (.cells #[.int .i64 8, .string i, .string f, .string g, .string y, .int .i64 a, .int .i64 d, .string t] 85 (0, 0)))) (o := (.cells #[.string i] 9 (0, 0))) (by simp))
  have HB14 := Lib.hid (HB3.out.alloc (by have := HB3.out.size; simp at this ⊢ <;> omega) (.cells #[.string i] 9 (0, 0)))
  clear HB3
  have hc15 : ((w.alloc (.cells #[.int .i64 8, .string i, .string f, .string g, .string y, .int .i64 a, .int .i64 d, .string t] 85 (0, 0))).alloc (.cells #[.string i] 9 (0, 0))).cell? ⟨w.heap.size, 0, none⟩ = some (.int .i64 8) := by rw [cell_of_row _ _ _ _ _ _ HF12.out]; rfl
  have hc16 : ((w.alloc (.cells #[.int .i64 8, .string i, .string f, .string g, .string y, .int .i64 a, .int .i64 d, .string t] 85 (0, 0))).alloc (.cells #[.string i] 9 (0, 0))).cell? ⟨w.heap.size, 1, none⟩ = some (.string i) := by rw [cell_of_row _ _ _ _ _ _ HF12.out]; rfl
  have hc17 : ((w.alloc (.cells #[.int .i64 8, .string i, .string f, .string g, .string y, .int .i64 a, .int .i64 d, .string t] 85 (0, 0))).alloc (.cells #[.string i] 9 (0, 0))).cell? ⟨w.heap.size, 2, none⟩ = some (.string f) := by rw [cell_of_row _ _ _ _ _ _ HF12.out]; rfl
  have hc18 : ((w.alloc (.cells #[.int .i64 8, .string i, .string f, .string g, .string y, .int .i64 a, .int .i64 d, .string t] 85 (0, 0))).alloc (.cells #[.string i] 9 (0, 0))).cell? ⟨w.heap.size, 3, none⟩ = some (.string g) := by rw [cell_of_row _ _ _ _ _ _ HF12.out]; rfl
  have hc19 : ((w.alloc (.cells #[.int .i64 8, .string i, .string f, .string g, .string y, .int .i64 a, .int .i64 d, .string t] 85 (0, 0))).alloc (.cells #[.string i] 9 (0, 0))).cell? ⟨w.heap.size, 4, none⟩ = some (.string y) := by rw [cell_of_row _ _ _ _ _ _ HF12.out]; rfl
  have hc20 : ((w.alloc (.cells #[.int .i64 8, .string i, .string f, .string g, .string y, .int .i64 a, .int .i64 d, .string t] 85 (0, 0))).alloc (.cells #[.string i] 9 (0, 0))).cell? ⟨w.heap.size, 5, none⟩ = some (.int .i64 a) := by rw [cell_of_row _ _ _ _ _ _ HF12.out]; rfl
  have hc21 : ((w.alloc (.cells #[.int .i64 8, .string i, .string f, .string g, .string y, .int .i64 a, .int .i64 d, .string t] 85 (0, 0))).alloc (.cells #[.string i] 9 (0, 0))).cell? ⟨w.heap.size, 6, none⟩ = some (.int .i64 d) := by rw [cell_of_row _ _ _ _ _ _ HF12.out]; rfl
  have hc22 : ((w.alloc (.cells #[.int .i64 8, .string i, .string f, .string g, .string y, .int .i64 a, .int .i64 d, .string t] 85 (0, 0))).alloc (.cells #[.string i] 9 (0, 0))).cell? ⟨w.heap.size, 7, none⟩ = some (.string t) := by rw [cell_of_row _ _ _ _ _ _ HF12.out]; rfl
  have HF23 := Lib.hid (blk_alloc HF12.out (.cells #[.string y] 9 (0, 0)))
  clear HF12
  have HF24 := Lib.hid (blk_alloc HF13.out (.cells #[.string y] 9 (0, 0)))
  clear HF13
  have HF25 : Hid ((((w.alloc (.cells #[.int .i64 8, .string i, .string f, .string g, .string y, .int .i64 a, .int .i64 d, .string t] 85 (0, 0))).alloc (.cells #[.string i] 9 (0, 0))).alloc (.cells #[.string y] 9 (0, 0))).heap[w.heap.size + 2]? = some (.cells #[.string y] 9 (0, 0))) := Lib.hid (blk_newN (W := ((w.alloc (.cells #[.int .i64 8, .string i, .string f, .string g, .string y, .int .i64 a, .int .i64 d, .string t] 85 (0, 0))).alloc (.cells #[.string i] 9 (0, 0)))) (o := (.cells #[.string y] 9 (0, 0))) (by simp))
  have HB26 := Lib.hid (HB14.out.alloc (by have := HB14.out.size; simp at this ⊢ <;> omega) (.cells #[.string y] 9 (0, 0)))
  clear HB14
  have hc27 : (((w.alloc (.cells #[.int .i64 8, .string i, .string f, .string g, .string y, .int .i64 a, .int .i64 d, .string t] 85 (0, 0))).alloc (.cells #[.string i] 9 (0, 0))).alloc (.cells #[.string y] 9 (0, 0))).cell? ⟨w.heap.size, 0, none⟩ = some (.int .i64 8) := by rw [cell_of_row _ _ _ _ _ _ HF23.out]; rfl
  have hc28 : (((w.alloc (.cells #[.int .i64 8, .string i, .string f, .string g, .string y, .int .i64 a, .int .i64 d, .string t] 85 (0, 0))).alloc (.cells #[.string i] 9 (0, 0))).alloc (.cells #[.string y] 9 (0, 0))).cell? ⟨w.heap.size, 1, none⟩ = some (.string i) := by rw [cell_of_row _ _ _ _ _ _ HF23.out]; rfl
  have hc29 : (((w.alloc (.cells #[.int .i64 8, .string i, .string f, .string g, .string y, .int .i64 a, .int .i64 d, .string t] 85 (0, 0))).alloc (.cells #[.string i] 9 (0, 0))).alloc (.cells #[.string y] 9 (0, 0))).cell? ⟨w.heap.size, 2, none⟩ = some (.string f) := by rw [cell_of_row _ _ _ _ _ _ HF23.out]; rfl
  have hc30 : (((w.alloc (.cells #[.int .i64 8, .string i, .string f, .string g, .string y, .int .i64 a, .int .i64 d, .string t] 85 (0, 0))).alloc (.cells #[.string i] 9 (0, 0))).alloc (.cells #[.string y] 9 (0, 0))).cell? ⟨w.heap.size, 3, none⟩ = some (.string g) := by rw [cell_of_row _ _ _ _ _ _ HF23.out]; rfl
  have hc31 : (((w.alloc (.cells #[.int .i64 8, .string i, .string f, .string g, .string y, .int .i64 a, .int .i64 d, .string t] 85 (0, 0))).alloc (.cells #[.string i] 9 (0, 0))).alloc (.cells #[.string y] 9 (0, 0))).cell? ⟨w.heap.size, 4, none⟩ = some (.string y) := by rw [cell_of_row _ _ _ _ _ _ HF23.out]; rfl
  have hc32 : (((w.alloc (.cells #[.int .i64 8, .string i, .string f, .string g, .string y, .int .i64 a, .int .i64 d, .string t] 85 (0, 0))).alloc (.cells #[.string i] 9 (0, 0))).alloc (.cells #[.string y] 9 (0, 0))).cell? ⟨w.heap.size, 5, none⟩ = some (.int .i64 a) := by rw [cell_of_row _ _ _ _ _ _ HF23.out]; rfl
  have hc33 : (((w.alloc (.cells #[.int .i64 8, .string i, .string f, .string g, .string y, .int .i64 a, .int .i64 d, .string t] 85 (0, 0))).alloc (.cells #[.string i] 9 (0, 0))).alloc (.cells #[.string y] 9 (0, 0))).cell? ⟨w.heap.size, 6, none⟩ = some (.int .i64 d) := by rw [cell_of_row _ _ _ _ _ _ HF23.out]; rfl
  have hc34 : (((w.alloc (.cells #[.int .i64 8, .string i, .string f, .string g, .string y, .int .i64 a, .int .i64 d, .string t] 85 (0, 0))).alloc (.cells #[.string i] 9 (0, 0))).alloc (.cells #[.string y] 9 (0, 0))).cell? ⟨w.heap.size, 7, none⟩ = some (.string t) := by rw [cell_of_row _ _ _ _ _ _ HF23.out]; rfl
  go_wp2_with (at_builtin; refine wpList_appXs rfl (.tmp 33) (.tmp 36) 42 9 _ 16 rfl Try.underlying42 info_stA rfl (by omega) (by omega) stC_len stC_one w.heap.size w HB26.out (by simp <;> omega) _ [i] rfl (ow_blk (f := stC) (s := 1) [i] HF24.out (by omega) rfl rfl (by unfold maxLen; simp)) (some ⟨w.heap.size + 2, 0, none⟩) 1 1 [y] rfl (rd_blk (f := stC) (s := 1) (fun _ => rfl) [y] HF25.out rfl) (by simp) ?_)
  intro v2 w2 HO2 HB2 HZ2 HG2
  clear hc4 hc5 hc6 hc7 hc8 hc9 hc10 hc11 hc15 hc16 hc17 hc18 hc19 hc20 hc21 hc22 hc27 hc28 hc29 hc30 hc31 hc32 hc33 hc34
  obtain ⟨A3, c3, hv3, hrd, _, _⟩ := HO2.out.rd stC_len
  obtain ⟨b3, o3, hA3, _, _⟩ := hrd.2 (by simp)
  have hv3 : v2 = .slice A3 2 c3 := hv3
  subst hv3 hA3
  have HR3 := Lib.hid hrd
  clear hrd
  go_wp2_with fail
  obtain ⟨L, hL⟩ : ∃ L : List ByteArray, L = [i, y] := ⟨_, rfl⟩
  have HRD := Lib.hid (show RdX stC 1 w2 (some ⟨b3, o3, none⟩) 2 L by rw [hL]; exact HR3.out)
  have HSZ : Hid (∀ s ∈ L, s.size ≤ maxLen) := Lib.hid (by rw [hL]; intro s hs; simp at hs; rcases hs with rfl | rfl <;> assumption)
  have HLN := Lib.hid (show L.length = 2 by rw [hL]; rfl)
  have HEV := Lib.hid (show (if L.all nm = true then (0 : Int) else 2) = rightE (rightB 8 i f g y a d t) by rw [hL]; unfold rightE rightB; simp)
  clear hL
  go_loop [53] (fun j => ∃ q : Nat, j = .int .i64 (q : Int) ∧ q ≤ 2 ∧ Hid ((L.take q).all nm = true)) (fun j => 2 - (intOf j).toNat)
  case atStart => exact ⟨0, rfl, Nat.zero_le _, Lib.hid rfl⟩
  case round =>
    obtain ⟨q, rfl, hq, HI⟩ := hrel
    by_cases hlt : q < 2
    · have hd1 : decide ((q : Int) < 2) = true := decide_eq_true (by omega)
      have hl : q < L.length := by rw [HLN.out]; exact hlt
      have HX := Lib.hid (List.getElem?_eq_getElem hl)
      have hsz := HSZ.out _ (List.getElem_mem hl)
      have HAT := Lib.hid (List.take_succ_eq_append_getElem hl)
      have HMEM := Lib.hid (List.getElem_mem hl)
      obtain ⟨s, hs⟩ : ∃ s, s = L[q] := ⟨_, rfl⟩
      rw [← hs] at HX hsz HAT HMEM
      clear hs
      have hc : w2.cell? ⟨b3, o3 + q, none⟩ = some (.string s) := by have h := HRD.out.cellAt HX.out (by omega) 0 _ rfl; simpa using h
      have hi0 : (0 : Int) ≤ (q : Int) := by omega
      have hi1 : (q : Int) < 2 := by omega
      have HC := Lib.hid (fun W : World => ncheck_any s W hsz)
      cases hn : nm s with
      | false =>
        have HE := Lib.hid (show (2 : Int) = rightE (rightB 8 i f g y a d t) by
          rw [← HEV.out, if_neg]
          intro h
          rw [List.all_eq_true.1 h s HMEM.out] at hn
          cases hn)
        rw [nck_no s hn] at HC
        clear hn
        go_wp2_with fail
        refine (HC.out _).mono ?_
        rintro e w' ⟨rfl, rfl⟩
        go_wp2_with fail
        go_ret
        exact ⟨retI HE.out, HB2.out⟩
      | true =>
        have HJ := Lib.hid (show (L.take (q + 1)).all nm = true by rw [HAT.out, List.all_append, HI.out]; simp [hn])
        rw [nck_yes s hn] at HC
        clear hn
        go_wp2_with fail
        refine (HC.out _).mono ?_
        rintro e w' ⟨rfl, rfl⟩
        go_wp2_with fail
        go_round
        case rel => exact ⟨q + 1, by go_num, by omega, HJ⟩
        case measure => simp [intOf] <;> omega
    · have hd1 : decide ((q : Int) < 2) = false := decide_eq_false (by omega)
      have HE := Lib.hid (show (0 : Int) = rightE (rightB 8 i f g y a d t) by rw [← HEV.out, if_pos]; rw [← List.take_of_length_le (l := L) (i := q) (by rw [HLN.out]; omega)]; exact HI.out)
      go_wp2_with fail
      go_ret
      exact ⟨retI HE.out, HB2.out⟩
set_option maxRecDepth 100000 in
set_option maxHeartbeats 4000000 in
theorem gright_9 (i f g y : ByteArray) (a d : Int) (t : ByteArray) (w : World) (hi : i.size ≤ maxLen) (_hf : f.size ≤ maxLen) (_hg : g.size ≤ maxLen) (hy : y.size ≤ maxLen) :
    Calls Try.prog 48 #[.agg #[.int .i64 9, .string i, .string f, .string g, .string y, .int .i64 a, .int .i64 d, .string t]] w fun e w' => e = .returned (.int .i64 (rightE (rightB 9 i f g y a d t))) ∧ Below w.heap.size w w' := by
  have HP := Lib.hid (fun (W : World) (A : Option Addr) (q : RdX prC 4 W A 1 [(y, a, d, t)]) => cprops_any A 1 1 [(y, a, d, t)] W q (by omega) (by intro p hp; simp at hp; subst hp; exact hy))
  have HPV : Hid (prW [(y, a, d, t)] = if okP (y, a, d, t) = true then 0 else 2) := Lib.hid (by
    unfold prW
    rw [if_neg (by simp)]
    unfold prE
    cases ho : okP (y, a, d, t) with
    | false => simp
    | true =>
      rw [if_neg (by simp), if_neg]
      · rfl
      · rw [show leS (y, a, d, t).1 ⟨#[]⟩ = false from le_nil y (okP_nm ho)]; simp)
  rw [HPV.out] at HP
  cases ho : okP (y, a, d, t) with
  | false =>
    rw [ho] at HP
    have HE := Lib.hid (show (2 : Int) = rightE (rightB 9 i f g y a d t) by unfold rightE rightB; unfold okP at ho; simp at ho; simp; intro _ h1; exact ho h1)
    clear ho
    have HB1 := Lib.hid (Below.refl w.heap.size w)
    go_enter Try.func48, Try.ntmps48
    have HF2 := Lib.hid (blk_new w (.cells #[.int .i64 9, .string i, .string f, .string g, .string y, .int .i64 a, .int .i64 d, .string t] 85 (0, 0)))
    have HB3 := Lib.hid (HB1.out.alloc HB1.out.size (.cells #[.int .i64 9, .string i, .string f, .string g, .string y, .int .i64 a, .int .i64 d, .string t] 85 (0, 0)))
    clear HB1
    have hc4 : (w.alloc (.cells #[.int .i64 9, .string i, .string f, .string g, .string y, .int .i64 a, .int .i64 d, .string t] 85 (0, 0))).cell? ⟨w.heap.size, 0, none⟩ = some (.int .i64 9) := by rw [cell_of_row _ _ _ _ _ _ HF2.out]; rfl
    have hc5 : (w.alloc (.cells #[.int .i64 9, .string i, .string f, .string g, .string y, .int .i64 a, .int .i64 d, .string t] 85 (0, 0))).cell? ⟨w.heap.size, 1, none⟩ = some (.string i) := by rw [cell_of_row _ _ _ _ _ _ HF2.out]; rfl
    have hc6 : (w.alloc (.cells #[.int .i64 9, .string i, .string f, .string g, .string y, .int .i64 a, .int .i64 d, .string t] 85 (0, 0))).cell? ⟨w.heap.size, 2, none⟩ = some (.string f) := by rw [cell_of_row _ _ _ _ _ _ HF2.out]; rfl
    have hc7 : (w.alloc (.cells #[.int .i64 9, .string i, .string f, .string g, .string y, .int .i64 a, .int .i64 d, .string t] 85 (0, 0))).cell? ⟨w.heap.size, 3, none⟩ = some (.string g) := by rw [cell_of_row _ _ _ _ _ _ HF2.out]; rfl
    have hc8 : (w.alloc (.cells #[.int .i64 9, .string i, .string f, .string g, .string y, .int .i64 a, .int .i64 d, .string t] 85 (0, 0))).cell? ⟨w.heap.size, 4, none⟩ = some (.string y) := by rw [cell_of_row _ _ _ _ _ _ HF2.out]; rfl
    have hc9 : (w.alloc (.cells #[.int .i64 9, .string i, .string f, .string g, .string y, .int .i64 a, .int .i64 d, .string t] 85 (0, 0))).cell? ⟨w.heap.size, 5, none⟩ = some (.int .i64 a) := by rw [cell_of_row _ _ _ _ _ _ HF2.out]; rfl
    have hc10 : (w.alloc (.cells #[.int .i64 9, .string i, .string f, .string g, .string y, .int .i64 a, .int .i64 d, .string t] 85 (0, 0))).cell? ⟨w.heap.size, 6, none⟩ = some (.int .i64 d) := by rw [cell_of_row _ _ _ _ _ _ HF2.out]; rfl
    have hc11 : (w.alloc (.cells #[.int .i64 9, .string i, .string f, .string g, .string y, .int .i64 a, .int .i64 d, .string t] 85 (0, 0))).cell? ⟨w.heap.size, 7, none⟩ = some (.string t) := by rw [cell_of_row _ _ _ _ _ _ HF2.out]; rfl
    have HF12 := Lib.hid (blk_alloc HF2.out (.cells #[.string i] 9 (0, 0)))
    clear HF2
    have HF13 : Hid (((w.alloc (.cells #[.int .i64 9, .string i, .string f, .string g, .string y, .int .i64 a, .int .i64 d, .string t] 85 (0, 0))).alloc (.cells #[.string i] 9 (0, 0))).heap[w.heap.size + 1]? = some (.cells #[.string i] 9 (0, 0))) := Lib.hid (blk_newN (W := (w.alloc (.cells #[.int .i64 9, .string i, .string f, .string g, .string y, .int .i64 a, .int .i64 d, .string t] 85 (0, 0)))) (o := (.cells #[.string i] 9 (0, 0))) (by simp))
    have HB14 := Lib.hid (HB3.out.alloc (by have := HB3.out.size; simp at this ⊢ <;> omega) (.cells #[.string i] 9 (0, 0)))
    clear HB3
    have hc15 : ((w.alloc (.cells #[.int .i64 9, .string i, .string f, .string g, .string y, .int .i64 a, .int .i64 d, .string t] 85 (0, 0))).alloc (.cells #[.string i] 9 (0, 0))).cell? ⟨w.heap.size, 0, none⟩ = some (.int .i64 9) := by rw [cell_of_row _ _ _ _ _ _ HF12.out]; rfl
    have hc16 : ((w.alloc (.cells #[.int .i64 9, .string i, .string f, .string g, .string y, .int .i64 a, .int .i64 d, .string t] 85 (0, 0))).alloc (.cells #[.string i] 9 (0, 0))).cell? ⟨w.heap.size, 1, none⟩ = some (.string i) := by rw [cell_of_row _ _ _ _ _ _ HF12.out]; rfl
    have hc17 : ((w.alloc (.cells #[.int .i64 9, .string i, .string f, .string g, .string y, .int .i64 a, .int .i64 d, .string t] 85 (0, 0))).alloc (.cells #[.string i] 9 (0, 0))).cell? ⟨w.heap.size, 2, none⟩ = some (.string f) := by rw [cell_of_row _ _ _ _ _ _ HF12.out]; rfl
    have hc18 : ((w.alloc (.cells #[.int .i64 9, .string i, .string f, .string g, .string y, .int .i64 a, .int .i64 d, .string t] 85 (0, 0))).alloc (.cells #[.string i] 9 (0, 0))).cell? ⟨w.heap.size, 3, none⟩ = some (.string g) := by rw [cell_of_row _ _ _ _ _ _ HF12.out]; rfl
    have hc19 : ((w.alloc (.cells #[.int .i64 9, .string i, .string f, .string g, .string y, .int .i64 a, .int .i64 d, .string t] 85 (0, 0))).alloc (.cells #[.string i] 9 (0, 0))).cell? ⟨w.heap.size, 4, none⟩ = some (.string y) := by rw [cell_of_row _ _ _ _ _ _ HF12.out]; rfl
    have hc20 : ((w.alloc (.cells #[.int .i64 9, .string i, .string f, .string g, .string y, .int .i64 a, .int .i64 d, .string t] 85 (0, 0))).alloc (.cells #[.string i] 9 (0, 0))).cell? ⟨w.heap.size, 5, none⟩ = some (.int .i64 a) := by rw [cell_of_row _ _ _ _ _ _ HF12.out]; rfl
    have hc21 : ((w.alloc (.cells #[.int .i64 9, .string i, .string f, .string g, .string y, .int .i64 a, .int .i64 d, .string t] 85 (0, 0))).alloc (.cells #[.string i] 9 (0, 0))).cell? ⟨w.heap.size, 6, none⟩ = some (.int .i64 d) := by rw [cell_of_row _ _ _ _ _ _ HF12.out]; rfl
    have hc22 : ((w.alloc (.cells #[.int .i64 9, .string i, .string f, .string g, .string y, .int .i64 a, .int .i64 d, .string t] 85 (0, 0))).alloc (.cells #[.string i] 9 (0, 0))).cell? ⟨w.heap.size, 7, none⟩ = some (.string t) := by rw [cell_of_row _ _ _ _ _ _ HF12.out]; rfl
    have HF23 := Lib.hid (blk_alloc HF12.out (.cells #[.string y, .int .i64 a, .int .i64 d, .string t] 139 (0, 0)))
    clear HF12
    have HF24 := Lib.hid (blk_alloc HF13.out (.cells #[.string y, .int .i64 a, .int .i64 d, .string t] 139 (0, 0)))
    clear HF13
    have HF25 : Hid ((((w.alloc (.cells #[.int .i64 9, .string i, .string f, .string g, .string y, .int .i64 a, .int .i64 d, .string t] 85 (0, 0))).alloc (.cells #[.string i] 9 (0, 0))).alloc (.cells #[.string y, .int .i64 a, .int .i64 d, .string t] 139 (0, 0))).heap[w.heap.size + 2]? = some (.cells #[.string y, .int .i64 a, .int .i64 d, .string t] 139 (0, 0))) := Lib.hid (blk_newN (W := ((w.alloc (.cells #[.int .i64 9, .string i, .string f, .string g, .string y, .int .i64 a, .int .i64 d, .string t] 85 (0, 0))).alloc (.cells #[.string i] 9 (0, 0)))) (o := (.cells #[.string y, .int .i64 a, .int .i64 d, .string t] 139 (0, 0))) (by simp))
    have HB26 := Lib.hid (HB14.out.alloc (by have := HB14.out.size; simp at this ⊢ <;> omega) (.cells #[.string y, .int .i64 a, .int .i64 d, .string t] 139 (0, 0)))
    clear HB14
    have hc27 : (((w.alloc (.cells #[.int .i64 9, .string i, .string f, .string g, .string y, .int .i64 a, .int .i64 d, .string t] 85 (0, 0))).alloc (.cells #[.string i] 9 (0, 0))).alloc (.cells #[.string y, .int .i64 a, .int .i64 d, .string t] 139 (0, 0))).cell? ⟨w.heap.size, 0, none⟩ = some (.int .i64 9) := by rw [cell_of_row _ _ _ _ _ _ HF23.out]; rfl
    have hc28 : (((w.alloc (.cells #[.int .i64 9, .string i, .string f, .string g, .string y, .int .i64 a, .int .i64 d, .string t] 85 (0, 0))).alloc (.cells #[.string i] 9 (0, 0))).alloc (.cells #[.string y, .int .i64 a, .int .i64 d, .string t] 139 (0, 0))).cell? ⟨w.heap.size, 1, none⟩ = some (.string i) := by rw [cell_of_row _ _ _ _ _ _ HF23.out]; rfl
    have hc29 : (((w.alloc (.cells #[.int .i64 9, .string i, .string f, .string g, .string y, .int .i64 a, .int .i64 d, .string t] 85 (0, 0))).alloc (.cells #[.string i] 9 (0, 0))).alloc (.cells #[.string y, .int .i64 a, .int .i64 d, .string t] 139 (0, 0))).cell? ⟨w.heap.size, 2, none⟩ = some (.string f) := by rw [cell_of_row _ _ _ _ _ _ HF23.out]; rfl
    have hc30 : (((w.alloc (.cells #[.int .i64 9, .string i, .string f, .string g, .string y, .int .i64 a, .int .i64 d, .string t] 85 (0, 0))).alloc (.cells #[.string i] 9 (0, 0))).alloc (.cells #[.string y, .int .i64 a, .int .i64 d, .string t] 139 (0, 0))).cell? ⟨w.heap.size, 3, none⟩ = some (.string g) := by rw [cell_of_row _ _ _ _ _ _ HF23.out]; rfl
    have hc31 : (((w.alloc (.cells #[.int .i64 9, .string i, .string f, .string g, .string y, .int .i64 a, .int .i64 d, .string t] 85 (0, 0))).alloc (.cells #[.string i] 9 (0, 0))).alloc (.cells #[.string y, .int .i64 a, .int .i64 d, .string t] 139 (0, 0))).cell? ⟨w.heap.size, 4, none⟩ = some (.string y) := by rw [cell_of_row _ _ _ _ _ _ HF23.out]; rfl
    have hc32 : (((w.alloc (.cells #[.int .i64 9, .string i, .string f, .string g, .string y, .int .i64 a, .int .i64 d, .string t] 85 (0, 0))).alloc (.cells #[.string i] 9 (0, 0))).alloc (.cells #[.string y, .int .i64 a, .int .i64 d, .string t] 139 (0, 0))).cell? ⟨w.heap.size, 5, none⟩ = some (.int .i64 a) := by rw [cell_of_row _ _ _ _ _ _ HF23.out]; rfl
    have hc33 : (((w.alloc (.cells #[.int .i64 9, .string i, .string f, .string g, .string y, .int .i64 a, .int .i64 d, .string t] 85 (0, 0))).alloc (.cells #[.string i] 9 (0, 0))).alloc (.cells #[.string y, .int .i64 a, .int .i64 d, .string t] 139 (0, 0))).cell? ⟨w.heap.size, 6, none⟩ = some (.int .i64 d) := by rw [cell_of_row _ _ _ _ _ _ HF23.out]; rfl
    have hc34 : (((w.alloc (.cells #[.int .i64 9, .string i, .string f, .string g, .string y, .int .i64 a, .int .i64 d, .string t] 85 (0, 0))).alloc (.cells #[.string i] 9 (0, 0))).alloc (.cells #[.string y, .int .i64 a, .int .i64 d, .string t] 139 (0, 0))).cell? ⟨w.heap.size, 7, none⟩ = some (.string t) := by rw [cell_of_row _ _ _ _ _ _ HF23.out]; rfl
    go_wp2_with fail
    clear hc4 hc5 hc6 hc7 hc8 hc9 hc10 hc11 hc15 hc16 hc17 hc18 hc19 hc20 hc21 hc22 hc27 hc28 hc29 hc30 hc31 hc32 hc33 hc34
    refine (HP.out (((w.alloc (.cells #[.int .i64 9, .string i, .string f, .string g, .string y, .int .i64 a, .int .i64 d, .string t] 85 (0, 0))).alloc (.cells #[.string i] 9 (0, 0))).alloc (.cells #[.string y, .int .i64 a, .int .i64 d, .string t] 139 (0, 0))) _ (rd_blk (f := prC) (s := 4) (fun _ => rfl) [(y, a, d, t)] HF25.out rfl)).mono ?_
    rintro e w1 ⟨rfl, hb1⟩
    have HF35 := Lib.hid (blk_below HF23.out hb1)
    have HF36 := Lib.hid (blk_below HF24.out hb1)
    have HF37 := Lib.hid (blk_below HF25.out hb1)
    have HB38 := Lib.hid (HB26.out.trans (hb1.mono HB26.out.size))
    clear hb1 HB26 HF23 HF24 HF25
    go_wp2_with fail
    go_ret
    exact ⟨retI HE.out, HB38.out⟩
  | true =>
    rw [ho] at HP
    have HO := Lib.hid ho
    clear ho
    have HB1 := Lib.hid (Below.refl w.heap.size w)
    go_enter Try.func48, Try.ntmps48
    have HF2 := Lib.hid (blk_new w (.cells #[.int .i64 9, .string i, .string f, .string g, .string y, .int .i64 a, .int .i64 d, .string t] 85 (0, 0)))
    have HB3 := Lib.hid (HB1.out.alloc HB1.out.size (.cells #[.int .i64 9, .string i, .string f, .string g, .string y, .int .i64 a, .int .i64 d, .string t] 85 (0, 0)))
    clear HB1
    have hc4 : (w.alloc (.cells #[.int .i64 9, .string i, .string f, .string g, .string y, .int .i64 a, .int .i64 d, .string t] 85 (0, 0))).cell? ⟨w.heap.size, 0, none⟩ = some (.int .i64 9) := by rw [cell_of_row _ _ _ _ _ _ HF2.out]; rfl
    have hc5 : (w.alloc (.cells #[.int .i64 9, .string i, .string f, .string g, .string y, .int .i64 a, .int .i64 d, .string t] 85 (0, 0))).cell? ⟨w.heap.size, 1, none⟩ = some (.string i) := by rw [cell_of_row _ _ _ _ _ _ HF2.out]; rfl
    have hc6 : (w.alloc (.cells #[.int .i64 9, .string i, .string f, .string g, .string y, .int .i64 a, .int .i64 d, .string t] 85 (0, 0))).cell? ⟨w.heap.size, 2, none⟩ = some (.string f) := by rw [cell_of_row _ _ _ _ _ _ HF2.out]; rfl
    have hc7 : (w.alloc (.cells #[.int .i64 9, .string i, .string f, .string g, .string y, .int .i64 a, .int .i64 d, .string t] 85 (0, 0))).cell? ⟨w.heap.size, 3, none⟩ = some (.string g) := by rw [cell_of_row _ _ _ _ _ _ HF2.out]; rfl
    have hc8 : (w.alloc (.cells #[.int .i64 9, .string i, .string f, .string g, .string y, .int .i64 a, .int .i64 d, .string t] 85 (0, 0))).cell? ⟨w.heap.size, 4, none⟩ = some (.string y) := by rw [cell_of_row _ _ _ _ _ _ HF2.out]; rfl
    have hc9 : (w.alloc (.cells #[.int .i64 9, .string i, .string f, .string g, .string y, .int .i64 a, .int .i64 d, .string t] 85 (0, 0))).cell? ⟨w.heap.size, 5, none⟩ = some (.int .i64 a) := by rw [cell_of_row _ _ _ _ _ _ HF2.out]; rfl
    have hc10 : (w.alloc (.cells #[.int .i64 9, .string i, .string f, .string g, .string y, .int .i64 a, .int .i64 d, .string t] 85 (0, 0))).cell? ⟨w.heap.size, 6, none⟩ = some (.int .i64 d) := by rw [cell_of_row _ _ _ _ _ _ HF2.out]; rfl
    have hc11 : (w.alloc (.cells #[.int .i64 9, .string i, .string f, .string g, .string y, .int .i64 a, .int .i64 d, .string t] 85 (0, 0))).cell? ⟨w.heap.size, 7, none⟩ = some (.string t) := by rw [cell_of_row _ _ _ _ _ _ HF2.out]; rfl
    have HF12 := Lib.hid (blk_alloc HF2.out (.cells #[.string i] 9 (0, 0)))
    clear HF2
    have HF13 : Hid (((w.alloc (.cells #[.int .i64 9, .string i, .string f, .string g, .string y, .int .i64 a, .int .i64 d, .string t] 85 (0, 0))).alloc (.cells #[.string i] 9 (0, 0))).heap[w.heap.size + 1]? = some (.cells #[.string i] 9 (0, 0))) := Lib.hid (blk_newN (W := (w.alloc (.cells #[.int .i64 9, .string i, .string f, .string g, .string y, .int .i64 a, .int .i64 d, .string t] 85 (0, 0)))) (o := (.cells #[.string i] 9 (0, 0))) (by simp))
    have HB14 := Lib.hid (HB3.out.alloc (by have := HB3.out.size; simp at this ⊢ <;> omega) (.cells #[.string i] 9 (0, 0)))
    clear HB3
    have hc15 : ((w.alloc (.cells #[.int .i64 9, .string i, .string f, .string g, .string y, .int .i64 a, .int .i64 d, .string t] 85 (0, 0))).alloc (.cells #[.string i] 9 (0, 0))).cell? ⟨w.heap.size, 0, none⟩ = some (.int .i64 9) := by rw [cell_of_row _ _ _ _ _ _ HF12.out]; rfl
    have hc16 : ((w.alloc (.cells #[.int .i64 9, .string i, .string f, .string g, .string y, .int .i64 a, .int .i64 d, .string t] 85 (0, 0))).alloc (.cells #[.string i] 9 (0, 0))).cell? ⟨w.heap.size, 1, none⟩ = some (.string i) := by rw [cell_of_row _ _ _ _ _ _ HF12.out]; rfl
    have hc17 : ((w.alloc (.cells #[.int .i64 9, .string i, .string f, .string g, .string y, .int .i64 a, .int .i64 d, .string t] 85 (0, 0))).alloc (.cells #[.string i] 9 (0, 0))).cell? ⟨w.heap.size, 2, none⟩ = some (.string f) := by rw [cell_of_row _ _ _ _ _ _ HF12.out]; rfl
    have hc18 : ((w.alloc (.cells #[.int .i64 9, .string i, .string f, .string g, .string y, .int .i64 a, .int .i64 d, .string t] 85 (0, 0))).alloc (.cells #[.string i] 9 (0, 0))).cell? ⟨w.heap.size, 3, none⟩ = some (.string g) := by rw [cell_of_row _ _ _ _ _ _ HF12.out]; rfl
    have hc19 : ((w.alloc (.cells #[.int .i64 9, .string i, .string f, .string g, .string y, .int .i64 a, .int .i64 d, .string t] 85 (0, 0))).alloc (.cells #[.string i] 9 (0, 0))).cell? ⟨w.heap.size, 4, none⟩ = some (.string y) := by rw [cell_of_row _ _ _ _ _ _ HF12.out]; rfl
    have hc20 : ((w.alloc (.cells #[.int .i64 9, .string i, .string f, .string g, .string y, .int .i64 a, .int .i64 d, .string t] 85 (0, 0))).alloc (.cells #[.string i] 9 (0, 0))).cell? ⟨w.heap.size, 5, none⟩ = some (.int .i64 a) := by rw [cell_of_row _ _ _ _ _ _ HF12.out]; rfl
    have hc21 : ((w.alloc (.cells #[.int .i64 9, .string i, .string f, .string g, .string y, .int .i64 a, .int .i64 d, .string t] 85 (0, 0))).alloc (.cells #[.string i] 9 (0, 0))).cell? ⟨w.heap.size, 6, none⟩ = some (.int .i64 d) := by rw [cell_of_row _ _ _ _ _ _ HF12.out]; rfl
    have hc22 : ((w.alloc (.cells #[.int .i64 9, .string i, .string f, .string g, .string y, .int .i64 a, .int .i64 d, .string t] 85 (0, 0))).alloc (.cells #[.string i] 9 (0, 0))).cell? ⟨w.heap.size, 7, none⟩ = some (.string t) := by rw [cell_of_row _ _ _ _ _ _ HF12.out]; rfl
    have HF23 := Lib.hid (blk_alloc HF12.out (.cells #[.string y, .int .i64 a, .int .i64 d, .string t] 139 (0, 0)))
    clear HF12
    have HF24 := Lib.hid (blk_alloc HF13.out (.cells #[.string y, .int .i64 a, .int .i64 d, .string t] 139 (0, 0)))
    clear HF13
    have HF25 : Hid ((((w.alloc (.cells #[.int .i64 9, .string i, .string f, .string g, .string y, .int .i64 a, .int .i64 d, .string t] 85 (0, 0))).alloc (.cells #[.string i] 9 (0, 0))).alloc (.cells #[.string y, .int .i64 a, .int .i64 d, .string t] 139 (0, 0))).heap[w.heap.size + 2]? = some (.cells #[.string y, .int .i64 a, .int .i64 d, .string t] 139 (0, 0))) := Lib.hid (blk_newN (W := ((w.alloc (.cells #[.int .i64 9, .string i, .string f, .string g, .string y, .int .i64 a, .int .i64 d, .string t] 85 (0, 0))).alloc (.cells #[.string i] 9 (0, 0)))) (o := (.cells #[.string y, .int .i64 a, .int .i64 d, .string t] 139 (0, 0))) (by simp))
    have HB26 := Lib.hid (HB14.out.alloc (by have := HB14.out.size; simp at this ⊢ <;> omega) (.cells #[.string y, .int .i64 a, .int .i64 d, .string t] 139 (0, 0)))
    clear HB14
    have hc27 : (((w.alloc (.cells #[.int .i64 9, .string i, .string f, .string g, .string y, .int .i64 a, .int .i64 d, .string t] 85 (0, 0))).alloc (.cells #[.string i] 9 (0, 0))).alloc (.cells #[.string y, .int .i64 a, .int .i64 d, .string t] 139 (0, 0))).cell? ⟨w.heap.size, 0, none⟩ = some (.int .i64 9) := by rw [cell_of_row _ _ _ _ _ _ HF23.out]; rfl
    have hc28 : (((w.alloc (.cells #[.int .i64 9, .string i, .string f, .string g, .string y, .int .i64 a, .int .i64 d, .string t] 85 (0, 0))).alloc (.cells #[.string i] 9 (0, 0))).alloc (.cells #[.string y, .int .i64 a, .int .i64 d, .string t] 139 (0, 0))).cell? ⟨w.heap.size, 1, none⟩ = some (.string i) := by rw [cell_of_row _ _ _ _ _ _ HF23.out]; rfl
    have hc29 : (((w.alloc (.cells #[.int .i64 9, .string i, .string f, .string g, .string y, .int .i64 a, .int .i64 d, .string t] 85 (0, 0))).alloc (.cells #[.string i] 9 (0, 0))).alloc (.cells #[.string y, .int .i64 a, .int .i64 d, .string t] 139 (0, 0))).cell? ⟨w.heap.size, 2, none⟩ = some (.string f) := by rw [cell_of_row _ _ _ _ _ _ HF23.out]; rfl
    have hc30 : (((w.alloc (.cells #[.int .i64 9, .string i, .string f, .string g, .string y, .int .i64 a, .int .i64 d, .string t] 85 (0, 0))).alloc (.cells #[.string i] 9 (0, 0))).alloc (.cells #[.string y, .int .i64 a, .int .i64 d, .string t] 139 (0, 0))).cell? ⟨w.heap.size, 3, none⟩ = some (.string g) := by rw [cell_of_row _ _ _ _ _ _ HF23.out]; rfl
    have hc31 : (((w.alloc (.cells #[.int .i64 9, .string i, .string f, .string g, .string y, .int .i64 a, .int .i64 d, .string t] 85 (0, 0))).alloc (.cells #[.string i] 9 (0, 0))).alloc (.cells #[.string y, .int .i64 a, .int .i64 d, .string t] 139 (0, 0))).cell? ⟨w.heap.size, 4, none⟩ = some (.string y) := by rw [cell_of_row _ _ _ _ _ _ HF23.out]; rfl
    have hc32 : (((w.alloc (.cells #[.int .i64 9, .string i, .string f, .string g, .string y, .int .i64 a, .int .i64 d, .string t] 85 (0, 0))).alloc (.cells #[.string i] 9 (0, 0))).alloc (.cells #[.string y, .int .i64 a, .int .i64 d, .string t] 139 (0, 0))).cell? ⟨w.heap.size, 5, none⟩ = some (.int .i64 a) := by rw [cell_of_row _ _ _ _ _ _ HF23.out]; rfl
    have hc33 : (((w.alloc (.cells #[.int .i64 9, .string i, .string f, .string g, .string y, .int .i64 a, .int .i64 d, .string t] 85 (0, 0))).alloc (.cells #[.string i] 9 (0, 0))).alloc (.cells #[.string y, .int .i64 a, .int .i64 d, .string t] 139 (0, 0))).cell? ⟨w.heap.size, 6, none⟩ = some (.int .i64 d) := by rw [cell_of_row _ _ _ _ _ _ HF23.out]; rfl
    have hc34 : (((w.alloc (.cells #[.int .i64 9, .string i, .string f, .string g, .string y, .int .i64 a, .int .i64 d, .string t] 85 (0, 0))).alloc (.cells #[.string i] 9 (0, 0))).alloc (.cells #[.string y, .int .i64 a, .int .i64 d, .string t] 139 (0, 0))).cell? ⟨w.heap.size, 7, none⟩ = some (.string t) := by rw [cell_of_row _ _ _ _ _ _ HF23.out]; rfl
    go_wp2_with fail
    clear hc4 hc5 hc6 hc7 hc8 hc9 hc10 hc11 hc15 hc16 hc17 hc18 hc19 hc20 hc21 hc22 hc27 hc28 hc29 hc30 hc31 hc32 hc33 hc34
    refine (HP.out (((w.alloc (.cells #[.int .i64 9, .string i, .string f, .string g, .string y, .int .i64 a, .int .i64 d, .string t] 85 (0, 0))).alloc (.cells #[.string i] 9 (0, 0))).alloc (.cells #[.string y, .int .i64 a, .int .i64 d, .string t] 139 (0, 0))) _ (rd_blk (f := prC) (s := 4) (fun _ => rfl) [(y, a, d, t)] HF25.out rfl)).mono ?_
    rintro e w1 ⟨rfl, hb1⟩
    have HF35 := Lib.hid (blk_below HF23.out hb1)
    have HF36 := Lib.hid (blk_below HF24.out hb1)
    have HF37 := Lib.hid (blk_below HF25.out hb1)
    have HB38 := Lib.hid (HB26.out.trans (hb1.mono HB26.out.size))
    clear hb1 HB26 HF23 HF24 HF25
    go_wp2_with fail
    obtain ⟨L, hL⟩ : ∃ L : List ByteArray, L = [i] := ⟨_, rfl⟩
    have HRD := Lib.hid (show RdX stC 1 w1 (some ⟨w.heap.size + 1, 0, none⟩) 1 L by rw [hL]; exact rd_blk (f := stC) (s := 1) (fun _ => rfl) [i] HF36.out rfl)
    have HSZ : Hid (∀ s ∈ L, s.size ≤ maxLen) := Lib.hid (by rw [hL]; intro s hs; simp at hs; rcases hs with rfl <;> assumption)
    have HLN := Lib.hid (show L.length = 1 by rw [hL]; rfl)
    have HEV := Lib.hid (show (if L.all nm = true then (0 : Int) else 2) = rightE (rightB 9 i f g y a d t) by rw [hL]; have h1 := HO.out; unfold okP at h1; simp at h1; unfold rightE rightB; simp [h1])
    clear hL
    go_loop [53] (fun j => ∃ q : Nat, j = .int .i64 (q : Int) ∧ q ≤ 1 ∧ Hid ((L.take q).all nm = true)) (fun j => 1 - (intOf j).toNat)
    case atStart => exact ⟨0, rfl, Nat.zero_le _, Lib.hid rfl⟩
    case round =>
      obtain ⟨q, rfl, hq, HI⟩ := hrel
      by_cases hlt : q < 1
      · have hd1 : decide ((q : Int) < 1) = true := decide_eq_true (by omega)
        have hl : q < L.length := by rw [HLN.out]; exact hlt
        have HX := Lib.hid (List.getElem?_eq_getElem hl)
        have hsz := HSZ.out _ (List.getElem_mem hl)
        have HAT := Lib.hid (List.take_succ_eq_append_getElem hl)
        have HMEM := Lib.hid (List.getElem_mem hl)
        obtain ⟨s, hs⟩ : ∃ s, s = L[q] := ⟨_, rfl⟩
        rw [← hs] at HX hsz HAT HMEM
        clear hs
        have hc : w1.cell? ⟨w.heap.size + 1, q, none⟩ = some (.string s) := by have h := HRD.out.cellAt HX.out (by omega) 0 _ rfl; simpa using h
        have hi0 : (0 : Int) ≤ (q : Int) := by omega
        have hi1 : (q : Int) < 1 := by omega
        have HC := Lib.hid (fun W : World => ncheck_any s W hsz)
        cases hn : nm s with
        | false =>
          have HE := Lib.hid (show (2 : Int) = rightE (rightB 9 i f g y a d t) by
            rw [← HEV.out, if_neg]
            intro h
            rw [List.all_eq_true.1 h s HMEM.out] at hn
            cases hn)
          rw [nck_no s hn] at HC
          clear hn
          go_wp2_with fail
          refine (HC.out _).mono ?_
          rintro e w' ⟨rfl, rfl⟩
          go_wp2_with fail
          go_ret
          exact ⟨retI HE.out, HB38.out⟩
        | true =>
          have HJ := Lib.hid (show (L.take (q + 1)).all nm = true by rw [HAT.out, List.all_append, HI.out]; simp [hn])
          rw [nck_yes s hn] at HC
          clear hn
          go_wp2_with fail
          refine (HC.out _).mono ?_
          rintro e w' ⟨rfl, rfl⟩
          go_wp2_with fail
          go_round
          case rel => exact ⟨q + 1, by go_num, by omega, HJ⟩
          case measure => simp [intOf] <;> omega
      · have hd1 : decide ((q : Int) < 1) = false := decide_eq_false (by omega)
        have HE := Lib.hid (show (0 : Int) = rightE (rightB 9 i f g y a d t) by rw [← HEV.out, if_pos]; rw [← List.take_of_length_le (l := L) (i := q) (by rw [HLN.out]; omega)]; exact HI.out)
        go_wp2_with fail
        go_ret
        exact ⟨retI HE.out, HB38.out⟩
set_option maxRecDepth 100000 in
set_option maxHeartbeats 4000000 in
theorem gright_10 (i f g y : ByteArray) (a d : Int) (t : ByteArray) (w : World) (hi : i.size ≤ maxLen) (_hf : f.size ≤ maxLen) (_hg : g.size ≤ maxLen) (hy : y.size ≤ maxLen) :
    Calls Try.prog 48 #[.agg #[.int .i64 10, .string i, .string f, .string g, .string y, .int .i64 a, .int .i64 d, .string t]] w fun e w' => e = .returned (.int .i64 (rightE (rightB 10 i f g y a d t))) ∧ Below w.heap.size w w' := by
  have HB1 := Lib.hid (Below.refl w.heap.size w)
  go_enter Try.func48, Try.ntmps48
  have HF2 := Lib.hid (blk_new w (.cells #[.int .i64 10, .string i, .string f, .string g, .string y, .int .i64 a, .int .i64 d, .string t] 85 (0, 0)))
  have HB3 := Lib.hid (HB1.out.alloc HB1.out.size (.cells #[.int .i64 10, .string i, .string f, .string g, .string y, .int .i64 a, .int .i64 d, .string t] 85 (0, 0)))
  clear HB1
  have hc4 : (w.alloc (.cells #[.int .i64 10, .string i, .string f, .string g, .string y, .int .i64 a, .int .i64 d, .string t] 85 (0, 0))).cell? ⟨w.heap.size, 0, none⟩ = some (.int .i64 10) := by rw [cell_of_row _ _ _ _ _ _ HF2.out]; rfl
  have hc5 : (w.alloc (.cells #[.int .i64 10, .string i, .string f, .string g, .string y, .int .i64 a, .int .i64 d, .string t] 85 (0, 0))).cell? ⟨w.heap.size, 1, none⟩ = some (.string i) := by rw [cell_of_row _ _ _ _ _ _ HF2.out]; rfl
  have hc6 : (w.alloc (.cells #[.int .i64 10, .string i, .string f, .string g, .string y, .int .i64 a, .int .i64 d, .string t] 85 (0, 0))).cell? ⟨w.heap.size, 2, none⟩ = some (.string f) := by rw [cell_of_row _ _ _ _ _ _ HF2.out]; rfl
  have hc7 : (w.alloc (.cells #[.int .i64 10, .string i, .string f, .string g, .string y, .int .i64 a, .int .i64 d, .string t] 85 (0, 0))).cell? ⟨w.heap.size, 3, none⟩ = some (.string g) := by rw [cell_of_row _ _ _ _ _ _ HF2.out]; rfl
  have hc8 : (w.alloc (.cells #[.int .i64 10, .string i, .string f, .string g, .string y, .int .i64 a, .int .i64 d, .string t] 85 (0, 0))).cell? ⟨w.heap.size, 4, none⟩ = some (.string y) := by rw [cell_of_row _ _ _ _ _ _ HF2.out]; rfl
  have hc9 : (w.alloc (.cells #[.int .i64 10, .string i, .string f, .string g, .string y, .int .i64 a, .int .i64 d, .string t] 85 (0, 0))).cell? ⟨w.heap.size, 5, none⟩ = some (.int .i64 a) := by rw [cell_of_row _ _ _ _ _ _ HF2.out]; rfl
  have hc10 : (w.alloc (.cells #[.int .i64 10, .string i, .string f, .string g, .string y, .int .i64 a, .int .i64 d, .string t] 85 (0, 0))).cell? ⟨w.heap.size, 6, none⟩ = some (.int .i64 d) := by rw [cell_of_row _ _ _ _ _ _ HF2.out]; rfl
  have hc11 : (w.alloc (.cells #[.int .i64 10, .string i, .string f, .string g, .string y, .int .i64 a, .int .i64 d, .string t] 85 (0, 0))).cell? ⟨w.heap.size, 7, none⟩ = some (.string t) := by rw [cell_of_row _ _ _ _ _ _ HF2.out]; rfl
  have HF12 := Lib.hid (blk_alloc HF2.out (.cells #[.string i] 9 (0, 0)))
  clear HF2
  have HF13 : Hid (((w.alloc (.cells #[.int .i64 10, .string i, .string f, .string g, .string y, .int .i64 a, .int .i64 d, .string t] 85 (0, 0))).alloc (.cells #[.string i] 9 (0, 0))).heap[w.heap.size + 1]? = some (.cells #[.string i] 9 (0, 0))) := Lib.hid (blk_newN (W := (w.alloc (.cells #[.int .i64 10, .string i, .string f, .string g, .string y, .int .i64 a, .int .i64 d, .string t] 85 (0, 0)))) (o := (.cells #[.string i] 9 (0, 0))) (by simp))
  have HB14 := Lib.hid (HB3.out.alloc (by have := HB3.out.size; simp at this ⊢ <;> omega) (.cells #[.string i] 9 (0, 0)))
  clear HB3
  have hc15 : ((w.alloc (.cells #[.int .i64 10, .string i, .string f, .string g, .string y, .int .i64 a, .int .i64 d, .string t] 85 (0, 0))).alloc (.cells #[.string i] 9 (0, 0))).cell? ⟨w.heap.size, 0, none⟩ = some (.int .i64 10) := by rw [cell_of_row _ _ _ _ _ _ HF12.out]; rfl
  have hc16 : ((w.alloc (.cells #[.int .i64 10, .string i, .string f, .string g, .string y, .int .i64 a, .int .i64 d, .string t] 85 (0, 0))).alloc (.cells #[.string i] 9 (0, 0))).cell? ⟨w.heap.size, 1, none⟩ = some (.string i) := by rw [cell_of_row _ _ _ _ _ _ HF12.out]; rfl
  have hc17 : ((w.alloc (.cells #[.int .i64 10, .string i, .string f, .string g, .string y, .int .i64 a, .int .i64 d, .string t] 85 (0, 0))).alloc (.cells #[.string i] 9 (0, 0))).cell? ⟨w.heap.size, 2, none⟩ = some (.string f) := by rw [cell_of_row _ _ _ _ _ _ HF12.out]; rfl
  have hc18 : ((w.alloc (.cells #[.int .i64 10, .string i, .string f, .string g, .string y, .int .i64 a, .int .i64 d, .string t] 85 (0, 0))).alloc (.cells #[.string i] 9 (0, 0))).cell? ⟨w.heap.size, 3, none⟩ = some (.string g) := by rw [cell_of_row _ _ _ _ _ _ HF12.out]; rfl
  have hc19 : ((w.alloc (.cells #[.int .i64 10, .string i, .string f, .string g, .string y, .int .i64 a, .int .i64 d, .string t] 85 (0, 0))).alloc (.cells #[.string i] 9 (0, 0))).cell? ⟨w.heap.size, 4, none⟩ = some (.string y) := by rw [cell_of_row _ _ _ _ _ _ HF12.out]; rfl
  have hc20 : ((w.alloc (.cells #[.int .i64 10, .string i, .string f, .string g, .string y, .int .i64 a, .int .i64 d, .string t] 85 (0, 0))).alloc (.cells #[.string i] 9 (0, 0))).cell? ⟨w.heap.size, 5, none⟩ = some (.int .i64 a) := by rw [cell_of_row _ _ _ _ _ _ HF12.out]; rfl
  have hc21 : ((w.alloc (.cells #[.int .i64 10, .string i, .string f, .string g, .string y, .int .i64 a, .int .i64 d, .string t] 85 (0, 0))).alloc (.cells #[.string i] 9 (0, 0))).cell? ⟨w.heap.size, 6, none⟩ = some (.int .i64 d) := by rw [cell_of_row _ _ _ _ _ _ HF12.out]; rfl
  have hc22 : ((w.alloc (.cells #[.int .i64 10, .string i, .string f, .string g, .string y, .int .i64 a, .int .i64 d, .string t] 85 (0, 0))).alloc (.cells #[.string i] 9 (0, 0))).cell? ⟨w.heap.size, 7, none⟩ = some (.string t) := by rw [cell_of_row _ _ _ _ _ _ HF12.out]; rfl
  have HF23 := Lib.hid (blk_alloc HF12.out (.cells #[.string y] 9 (0, 0)))
  clear HF12
  have HF24 := Lib.hid (blk_alloc HF13.out (.cells #[.string y] 9 (0, 0)))
  clear HF13
  have HF25 : Hid ((((w.alloc (.cells #[.int .i64 10, .string i, .string f, .string g, .string y, .int .i64 a, .int .i64 d, .string t] 85 (0, 0))).alloc (.cells #[.string i] 9 (0, 0))).alloc (.cells #[.string y] 9 (0, 0))).heap[w.heap.size + 2]? = some (.cells #[.string y] 9 (0, 0))) := Lib.hid (blk_newN (W := ((w.alloc (.cells #[.int .i64 10, .string i, .string f, .string g, .string y, .int .i64 a, .int .i64 d, .string t] 85 (0, 0))).alloc (.cells #[.string i] 9 (0, 0)))) (o := (.cells #[.string y] 9 (0, 0))) (by simp))
  have HB26 := Lib.hid (HB14.out.alloc (by have := HB14.out.size; simp at this ⊢ <;> omega) (.cells #[.string y] 9 (0, 0)))
  clear HB14
  have hc27 : (((w.alloc (.cells #[.int .i64 10, .string i, .string f, .string g, .string y, .int .i64 a, .int .i64 d, .string t] 85 (0, 0))).alloc (.cells #[.string i] 9 (0, 0))).alloc (.cells #[.string y] 9 (0, 0))).cell? ⟨w.heap.size, 0, none⟩ = some (.int .i64 10) := by rw [cell_of_row _ _ _ _ _ _ HF23.out]; rfl
  have hc28 : (((w.alloc (.cells #[.int .i64 10, .string i, .string f, .string g, .string y, .int .i64 a, .int .i64 d, .string t] 85 (0, 0))).alloc (.cells #[.string i] 9 (0, 0))).alloc (.cells #[.string y] 9 (0, 0))).cell? ⟨w.heap.size, 1, none⟩ = some (.string i) := by rw [cell_of_row _ _ _ _ _ _ HF23.out]; rfl
  have hc29 : (((w.alloc (.cells #[.int .i64 10, .string i, .string f, .string g, .string y, .int .i64 a, .int .i64 d, .string t] 85 (0, 0))).alloc (.cells #[.string i] 9 (0, 0))).alloc (.cells #[.string y] 9 (0, 0))).cell? ⟨w.heap.size, 2, none⟩ = some (.string f) := by rw [cell_of_row _ _ _ _ _ _ HF23.out]; rfl
  have hc30 : (((w.alloc (.cells #[.int .i64 10, .string i, .string f, .string g, .string y, .int .i64 a, .int .i64 d, .string t] 85 (0, 0))).alloc (.cells #[.string i] 9 (0, 0))).alloc (.cells #[.string y] 9 (0, 0))).cell? ⟨w.heap.size, 3, none⟩ = some (.string g) := by rw [cell_of_row _ _ _ _ _ _ HF23.out]; rfl
  have hc31 : (((w.alloc (.cells #[.int .i64 10, .string i, .string f, .string g, .string y, .int .i64 a, .int .i64 d, .string t] 85 (0, 0))).alloc (.cells #[.string i] 9 (0, 0))).alloc (.cells #[.string y] 9 (0, 0))).cell? ⟨w.heap.size, 4, none⟩ = some (.string y) := by rw [cell_of_row _ _ _ _ _ _ HF23.out]; rfl
  have hc32 : (((w.alloc (.cells #[.int .i64 10, .string i, .string f, .string g, .string y, .int .i64 a, .int .i64 d, .string t] 85 (0, 0))).alloc (.cells #[.string i] 9 (0, 0))).alloc (.cells #[.string y] 9 (0, 0))).cell? ⟨w.heap.size, 5, none⟩ = some (.int .i64 a) := by rw [cell_of_row _ _ _ _ _ _ HF23.out]; rfl
  have hc33 : (((w.alloc (.cells #[.int .i64 10, .string i, .string f, .string g, .string y, .int .i64 a, .int .i64 d, .string t] 85 (0, 0))).alloc (.cells #[.string i] 9 (0, 0))).alloc (.cells #[.string y] 9 (0, 0))).cell? ⟨w.heap.size, 6, none⟩ = some (.int .i64 d) := by rw [cell_of_row _ _ _ _ _ _ HF23.out]; rfl
  have hc34 : (((w.alloc (.cells #[.int .i64 10, .string i, .string f, .string g, .string y, .int .i64 a, .int .i64 d, .string t] 85 (0, 0))).alloc (.cells #[.string i] 9 (0, 0))).alloc (.cells #[.string y] 9 (0, 0))).cell? ⟨w.heap.size, 7, none⟩ = some (.string t) := by rw [cell_of_row _ _ _ _ _ _ HF23.out]; rfl
  go_wp2_with (at_builtin; refine wpList_appXs rfl (.tmp 33) (.tmp 36) 42 9 _ 16 rfl Try.underlying42 info_stA rfl (by omega) (by omega) stC_len stC_one w.heap.size w HB26.out (by simp <;> omega) _ [i] rfl (ow_blk (f := stC) (s := 1) [i] HF24.out (by omega) rfl rfl (by unfold maxLen; simp)) (some ⟨w.heap.size + 2, 0, none⟩) 1 1 [y] rfl (rd_blk (f := stC) (s := 1) (fun _ => rfl) [y] HF25.out rfl) (by simp) ?_)
  intro v2 w2 HO2 HB2 HZ2 HG2
  clear hc4 hc5 hc6 hc7 hc8 hc9 hc10 hc11 hc15 hc16 hc17 hc18 hc19 hc20 hc21 hc22 hc27 hc28 hc29 hc30 hc31 hc32 hc33 hc34
  obtain ⟨A3, c3, hv3, hrd, _, _⟩ := HO2.out.rd stC_len
  obtain ⟨b3, o3, hA3, _, _⟩ := hrd.2 (by simp)
  have hv3 : v2 = .slice A3 2 c3 := hv3
  subst hv3 hA3
  have HR3 := Lib.hid hrd
  clear hrd
  go_wp2_with fail
  obtain ⟨L, hL⟩ : ∃ L : List ByteArray, L = [i, y] := ⟨_, rfl⟩
  have HRD := Lib.hid (show RdX stC 1 w2 (some ⟨b3, o3, none⟩) 2 L by rw [hL]; exact HR3.out)
  have HSZ : Hid (∀ s ∈ L, s.size ≤ maxLen) := Lib.hid (by rw [hL]; intro s hs; simp at hs; rcases hs with rfl | rfl <;> assumption)
  have HLN := Lib.hid (show L.length = 2 by rw [hL]; rfl)
  have HEV := Lib.hid (show (if L.all nm = true then (0 : Int) else 2) = rightE (rightB 10 i f g y a d t) by rw [hL]; unfold rightE rightB; simp)
  clear hL
  go_loop [53] (fun j => ∃ q : Nat, j = .int .i64 (q : Int) ∧ q ≤ 2 ∧ Hid ((L.take q).all nm = true)) (fun j => 2 - (intOf j).toNat)
  case atStart => exact ⟨0, rfl, Nat.zero_le _, Lib.hid rfl⟩
  case round =>
    obtain ⟨q, rfl, hq, HI⟩ := hrel
    by_cases hlt : q < 2
    · have hd1 : decide ((q : Int) < 2) = true := decide_eq_true (by omega)
      have hl : q < L.length := by rw [HLN.out]; exact hlt
      have HX := Lib.hid (List.getElem?_eq_getElem hl)
      have hsz := HSZ.out _ (List.getElem_mem hl)
      have HAT := Lib.hid (List.take_succ_eq_append_getElem hl)
      have HMEM := Lib.hid (List.getElem_mem hl)
      obtain ⟨s, hs⟩ : ∃ s, s = L[q] := ⟨_, rfl⟩
      rw [← hs] at HX hsz HAT HMEM
      clear hs
      have hc : w2.cell? ⟨b3, o3 + q, none⟩ = some (.string s) := by have h := HRD.out.cellAt HX.out (by omega) 0 _ rfl; simpa using h
      have hi0 : (0 : Int) ≤ (q : Int) := by omega
      have hi1 : (q : Int) < 2 := by omega
      have HC := Lib.hid (fun W : World => ncheck_any s W hsz)
      cases hn : nm s with
      | false =>
        have HE := Lib.hid (show (2 : Int) = rightE (rightB 10 i f g y a d t) by
          rw [← HEV.out, if_neg]
          intro h
          rw [List.all_eq_true.1 h s HMEM.out] at hn
          cases hn)
        rw [nck_no s hn] at HC
        clear hn
        go_wp2_with fail
        refine (HC.out _).mono ?_
        rintro e w' ⟨rfl, rfl⟩
        go_wp2_with fail
        go_ret
        exact ⟨retI HE.out, HB2.out⟩
      | true =>
        have HJ := Lib.hid (show (L.take (q + 1)).all nm = true by rw [HAT.out, List.all_append, HI.out]; simp [hn])
        rw [nck_yes s hn] at HC
        clear hn
        go_wp2_with fail
        refine (HC.out _).mono ?_
        rintro e w' ⟨rfl, rfl⟩
        go_wp2_with fail
        go_round
        case rel => exact ⟨q + 1, by go_num, by omega, HJ⟩
        case measure => simp [intOf] <;> omega
    · have hd1 : decide ((q : Int) < 2) = false := decide_eq_false (by omega)
      have HE := Lib.hid (show (0 : Int) = rightE (rightB 10 i f g y a d t) by rw [← HEV.out, if_pos]; rw [← List.take_of_length_le (l := L) (i := q) (by rw [HLN.out]; omega)]; exact HI.out)
      go_wp2_with fail
      go_ret
      exact ⟨retI HE.out, HB2.out⟩
set_option maxRecDepth 100000 in
set_option maxHeartbeats 4000000 in
theorem gright_11 (i f g y : ByteArray) (a d : Int) (t : ByteArray) (w : World) (hi : i.size ≤ maxLen) (_hf : f.size ≤ maxLen) (_hg : g.size ≤ maxLen) (hy : y.size ≤ maxLen) :
    Calls Try.prog 48 #[.agg #[.int .i64 11, .string i, .string f, .string g, .string y, .int .i64 a, .int .i64 d, .string t]] w fun e w' => e = .returned (.int .i64 (rightE (rightB 11 i f g y a d t))) ∧ Below w.heap.size w w' := by
  have HP := Lib.hid (fun (W : World) (A : Option Addr) (q : RdX prC 4 W A 1 [(y, a, d, t)]) => cprops_any A 1 1 [(y, a, d, t)] W q (by omega) (by intro p hp; simp at hp; subst hp; exact hy))
  have HPV : Hid (prW [(y, a, d, t)] = if okP (y, a, d, t) = true then 0 else 2) := Lib.hid (by
    unfold prW
    rw [if_neg (by simp)]
    unfold prE
    cases ho : okP (y, a, d, t) with
    | false => simp
    | true =>
      rw [if_neg (by simp), if_neg]
      · rfl
      · rw [show leS (y, a, d, t).1 ⟨#[]⟩ = false from le_nil y (okP_nm ho)]; simp)
  rw [HPV.out] at HP
  cases ho : okP (y, a, d, t) with
  | false =>
    rw [ho] at HP
    have HE := Lib.hid (show (2 : Int) = rightE (rightB 11 i f g y a d t) by unfold rightE rightB; unfold okP at ho; simp at ho; simp; intro _ h1; exact ho h1)
    clear ho
    have HB1 := Lib.hid (Below.refl w.heap.size w)
    go_enter Try.func48, Try.ntmps48
    have HF2 := Lib.hid (blk_new w (.cells #[.int .i64 11, .string i, .string f, .string g, .string y, .int .i64 a, .int .i64 d, .string t] 85 (0, 0)))
    have HB3 := Lib.hid (HB1.out.alloc HB1.out.size (.cells #[.int .i64 11, .string i, .string f, .string g, .string y, .int .i64 a, .int .i64 d, .string t] 85 (0, 0)))
    clear HB1
    have hc4 : (w.alloc (.cells #[.int .i64 11, .string i, .string f, .string g, .string y, .int .i64 a, .int .i64 d, .string t] 85 (0, 0))).cell? ⟨w.heap.size, 0, none⟩ = some (.int .i64 11) := by rw [cell_of_row _ _ _ _ _ _ HF2.out]; rfl
    have hc5 : (w.alloc (.cells #[.int .i64 11, .string i, .string f, .string g, .string y, .int .i64 a, .int .i64 d, .string t] 85 (0, 0))).cell? ⟨w.heap.size, 1, none⟩ = some (.string i) := by rw [cell_of_row _ _ _ _ _ _ HF2.out]; rfl
    have hc6 : (w.alloc (.cells #[.int .i64 11, .string i, .string f, .string g, .string y, .int .i64 a, .int .i64 d, .string t] 85 (0, 0))).cell? ⟨w.heap.size, 2, none⟩ = some (.string f) := by rw [cell_of_row _ _ _ _ _ _ HF2.out]; rfl
    have hc7 : (w.alloc (.cells #[.int .i64 11, .string i, .string f, .string g, .string y, .int .i64 a, .int .i64 d, .string t] 85 (0, 0))).cell? ⟨w.heap.size, 3, none⟩ = some (.string g) := by rw [cell_of_row _ _ _ _ _ _ HF2.out]; rfl
    have hc8 : (w.alloc (.cells #[.int .i64 11, .string i, .string f, .string g, .string y, .int .i64 a, .int .i64 d, .string t] 85 (0, 0))).cell? ⟨w.heap.size, 4, none⟩ = some (.string y) := by rw [cell_of_row _ _ _ _ _ _ HF2.out]; rfl
    have hc9 : (w.alloc (.cells #[.int .i64 11, .string i, .string f, .string g, .string y, .int .i64 a, .int .i64 d, .string t] 85 (0, 0))).cell? ⟨w.heap.size, 5, none⟩ = some (.int .i64 a) := by rw [cell_of_row _ _ _ _ _ _ HF2.out]; rfl
    have hc10 : (w.alloc (.cells #[.int .i64 11, .string i, .string f, .string g, .string y, .int .i64 a, .int .i64 d, .string t] 85 (0, 0))).cell? ⟨w.heap.size, 6, none⟩ = some (.int .i64 d) := by rw [cell_of_row _ _ _ _ _ _ HF2.out]; rfl
    have hc11 : (w.alloc (.cells #[.int .i64 11, .string i, .string f, .string g, .string y, .int .i64 a, .int .i64 d, .string t] 85 (0, 0))).cell? ⟨w.heap.size, 7, none⟩ = some (.string t) := by rw [cell_of_row _ _ _ _ _ _ HF2.out]; rfl
    have HF12 := Lib.hid (blk_alloc HF2.out (.cells #[.string i] 9 (0, 0)))
    clear HF2
    have HF13 : Hid (((w.alloc (.cells #[.int .i64 11, .string i, .string f, .string g, .string y, .int .i64 a, .int .i64 d, .string t] 85 (0, 0))).alloc (.cells #[.string i] 9 (0, 0))).heap[w.heap.size + 1]? = some (.cells #[.string i] 9 (0, 0))) := Lib.hid (blk_newN (W := (w.alloc (.cells #[.int .i64 11, .string i, .string f, .string g, .string y, .int .i64 a, .int .i64 d, .string t] 85 (0, 0)))) (o := (.cells #[.string i] 9 (0, 0))) (by simp))
    have HB14 := Lib.hid (HB3.out.alloc (by have := HB3.out.size; simp at this ⊢ <;> omega) (.cells #[.string i] 9 (0, 0)))
    clear HB3
    have hc15 : ((w.alloc (.cells #[.int .i64 11, .string i, .string f, .string g, .string y, .int .i64 a, .int .i64 d, .string t] 85 (0, 0))).alloc (.cells #[.string i] 9 (0, 0))).cell? ⟨w.heap.size, 0, none⟩ = some (.int .i64 11) := by rw [cell_of_row _ _ _ _ _ _ HF12.out]; rfl
    have hc16 : ((w.alloc (.cells #[.int .i64 11, .string i, .string f, .string g, .string y, .int .i64 a, .int .i64 d, .string t] 85 (0, 0))).alloc (.cells #[.string i] 9 (0, 0))).cell? ⟨w.heap.size, 1, none⟩ = some (.string i) := by rw [cell_of_row _ _ _ _ _ _ HF12.out]; rfl
    have hc17 : ((w.alloc (.cells #[.int .i64 11, .string i, .string f, .string g, .string y, .int .i64 a, .int .i64 d, .string t] 85 (0, 0))).alloc (.cells #[.string i] 9 (0, 0))).cell? ⟨w.heap.size, 2, none⟩ = some (.string f) := by rw [cell_of_row _ _ _ _ _ _ HF12.out]; rfl
    have hc18 : ((w.alloc (.cells #[.int .i64 11, .string i, .string f, .string g, .string y, .int .i64 a, .int .i64 d, .string t] 85 (0, 0))).alloc (.cells #[.string i] 9 (0, 0))).cell? ⟨w.heap.size, 3, none⟩ = some (.string g) := by rw [cell_of_row _ _ _ _ _ _ HF12.out]; rfl
    have hc19 : ((w.alloc (.cells #[.int .i64 11, .string i, .string f, .string g, .string y, .int .i64 a, .int .i64 d, .string t] 85 (0, 0))).alloc (.cells #[.string i] 9 (0, 0))).cell? ⟨w.heap.size, 4, none⟩ = some (.string y) := by rw [cell_of_row _ _ _ _ _ _ HF12.out]; rfl
    have hc20 : ((w.alloc (.cells #[.int .i64 11, .string i, .string f, .string g, .string y, .int .i64 a, .int .i64 d, .string t] 85 (0, 0))).alloc (.cells #[.string i] 9 (0, 0))).cell? ⟨w.heap.size, 5, none⟩ = some (.int .i64 a) := by rw [cell_of_row _ _ _ _ _ _ HF12.out]; rfl
    have hc21 : ((w.alloc (.cells #[.int .i64 11, .string i, .string f, .string g, .string y, .int .i64 a, .int .i64 d, .string t] 85 (0, 0))).alloc (.cells #[.string i] 9 (0, 0))).cell? ⟨w.heap.size, 6, none⟩ = some (.int .i64 d) := by rw [cell_of_row _ _ _ _ _ _ HF12.out]; rfl
    have hc22 : ((w.alloc (.cells #[.int .i64 11, .string i, .string f, .string g, .string y, .int .i64 a, .int .i64 d, .string t] 85 (0, 0))).alloc (.cells #[.string i] 9 (0, 0))).cell? ⟨w.heap.size, 7, none⟩ = some (.string t) := by rw [cell_of_row _ _ _ _ _ _ HF12.out]; rfl
    have HF23 := Lib.hid (blk_alloc HF12.out (.cells #[.string y, .int .i64 a, .int .i64 d, .string t] 139 (0, 0)))
    clear HF12
    have HF24 := Lib.hid (blk_alloc HF13.out (.cells #[.string y, .int .i64 a, .int .i64 d, .string t] 139 (0, 0)))
    clear HF13
    have HF25 : Hid ((((w.alloc (.cells #[.int .i64 11, .string i, .string f, .string g, .string y, .int .i64 a, .int .i64 d, .string t] 85 (0, 0))).alloc (.cells #[.string i] 9 (0, 0))).alloc (.cells #[.string y, .int .i64 a, .int .i64 d, .string t] 139 (0, 0))).heap[w.heap.size + 2]? = some (.cells #[.string y, .int .i64 a, .int .i64 d, .string t] 139 (0, 0))) := Lib.hid (blk_newN (W := ((w.alloc (.cells #[.int .i64 11, .string i, .string f, .string g, .string y, .int .i64 a, .int .i64 d, .string t] 85 (0, 0))).alloc (.cells #[.string i] 9 (0, 0)))) (o := (.cells #[.string y, .int .i64 a, .int .i64 d, .string t] 139 (0, 0))) (by simp))
    have HB26 := Lib.hid (HB14.out.alloc (by have := HB14.out.size; simp at this ⊢ <;> omega) (.cells #[.string y, .int .i64 a, .int .i64 d, .string t] 139 (0, 0)))
    clear HB14
    have hc27 : (((w.alloc (.cells #[.int .i64 11, .string i, .string f, .string g, .string y, .int .i64 a, .int .i64 d, .string t] 85 (0, 0))).alloc (.cells #[.string i] 9 (0, 0))).alloc (.cells #[.string y, .int .i64 a, .int .i64 d, .string t] 139 (0, 0))).cell? ⟨w.heap.size, 0, none⟩ = some (.int .i64 11) := by rw [cell_of_row _ _ _ _ _ _ HF23.out]; rfl
    have hc28 : (((w.alloc (.cells #[.int .i64 11, .string i, .string f, .string g, .string y, .int .i64 a, .int .i64 d, .string t] 85 (0, 0))).alloc (.cells #[.string i] 9 (0, 0))).alloc (.cells #[.string y, .int .i64 a, .int .i64 d, .string t] 139 (0, 0))).cell? ⟨w.heap.size, 1, none⟩ = some (.string i) := by rw [cell_of_row _ _ _ _ _ _ HF23.out]; rfl
    have hc29 : (((w.alloc (.cells #[.int .i64 11, .string i, .string f, .string g, .string y, .int .i64 a, .int .i64 d, .string t] 85 (0, 0))).alloc (.cells #[.string i] 9 (0, 0))).alloc (.cells #[.string y, .int .i64 a, .int .i64 d, .string t] 139 (0, 0))).cell? ⟨w.heap.size, 2, none⟩ = some (.string f) := by rw [cell_of_row _ _ _ _ _ _ HF23.out]; rfl
    have hc30 : (((w.alloc (.cells #[.int .i64 11, .string i, .string f, .string g, .string y, .int .i64 a, .int .i64 d, .string t] 85 (0, 0))).alloc (.cells #[.string i] 9 (0, 0))).alloc (.cells #[.string y, .int .i64 a, .int .i64 d, .string t] 139 (0, 0))).cell? ⟨w.heap.size, 3, none⟩ = some (.string g) := by rw [cell_of_row _ _ _ _ _ _ HF23.out]; rfl
    have hc31 : (((w.alloc (.cells #[.int .i64 11, .string i, .string f, .string g, .string y, .int .i64 a, .int .i64 d, .string t] 85 (0, 0))).alloc (.cells #[.string i] 9 (0, 0))).alloc (.cells #[.string y, .int .i64 a, .int .i64 d, .string t] 139 (0, 0))).cell? ⟨w.heap.size, 4, none⟩ = some (.string y) := by rw [cell_of_row _ _ _ _ _ _ HF23.out]; rfl
    have hc32 : (((w.alloc (.cells #[.int .i64 11, .string i, .string f, .string g, .string y, .int .i64 a, .int .i64 d, .string t] 85 (0, 0))).alloc (.cells #[.string i] 9 (0, 0))).alloc (.cells #[.string y, .int .i64 a, .int .i64 d, .string t] 139 (0, 0))).cell? ⟨w.heap.size, 5, none⟩ = some (.int .i64 a) := by rw [cell_of_row _ _ _ _ _ _ HF23.out]; rfl
    have hc33 : (((w.alloc (.cells #[.int .i64 11, .string i, .string f, .string g, .string y, .int .i64 a, .int .i64 d, .string t] 85 (0, 0))).alloc (.cells #[.string i] 9 (0, 0))).alloc (.cells #[.string y, .int .i64 a, .int .i64 d, .string t] 139 (0, 0))).cell? ⟨w.heap.size, 6, none⟩ = some (.int .i64 d) := by rw [cell_of_row _ _ _ _ _ _ HF23.out]; rfl
    have hc34 : (((w.alloc (.cells #[.int .i64 11, .string i, .string f, .string g, .string y, .int .i64 a, .int .i64 d, .string t] 85 (0, 0))).alloc (.cells #[.string i] 9 (0, 0))).alloc (.cells #[.string y, .int .i64 a, .int .i64 d, .string t] 139 (0, 0))).cell? ⟨w.heap.size, 7, none⟩ = some (.string t) := by rw [cell_of_row _ _ _ _ _ _ HF23.out]; rfl
    go_wp2_with fail
    clear hc4 hc5 hc6 hc7 hc8 hc9 hc10 hc11 hc15 hc16 hc17 hc18 hc19 hc20 hc21 hc22 hc27 hc28 hc29 hc30 hc31 hc32 hc33 hc34
    refine (HP.out (((w.alloc (.cells #[.int .i64 11, .string i, .string f, .string g, .string y, .int .i64 a, .int .i64 d, .string t] 85 (0, 0))).alloc (.cells #[.string i] 9 (0, 0))).alloc (.cells #[.string y, .int .i64 a, .int .i64 d, .string t] 139 (0, 0))) _ (rd_blk (f := prC) (s := 4) (fun _ => rfl) [(y, a, d, t)] HF25.out rfl)).mono ?_
    rintro e w1 ⟨rfl, hb1⟩
    have HF35 := Lib.hid (blk_below HF23.out hb1)
    have HF36 := Lib.hid (blk_below HF24.out hb1)
    have HF37 := Lib.hid (blk_below HF25.out hb1)
    have HB38 := Lib.hid (HB26.out.trans (hb1.mono HB26.out.size))
    clear hb1 HB26 HF23 HF24 HF25
    go_wp2_with fail
    go_ret
    exact ⟨retI HE.out, HB38.out⟩
  | true =>
    rw [ho] at HP
    have HO := Lib.hid ho
    clear ho
    have HB1 := Lib.hid (Below.refl w.heap.size w)
    go_enter Try.func48, Try.ntmps48
    have HF2 := Lib.hid (blk_new w (.cells #[.int .i64 11, .string i, .string f, .string g, .string y, .int .i64 a, .int .i64 d, .string t] 85 (0, 0)))
    have HB3 := Lib.hid (HB1.out.alloc HB1.out.size (.cells #[.int .i64 11, .string i, .string f, .string g, .string y, .int .i64 a, .int .i64 d, .string t] 85 (0, 0)))
    clear HB1
    have hc4 : (w.alloc (.cells #[.int .i64 11, .string i, .string f, .string g, .string y, .int .i64 a, .int .i64 d, .string t] 85 (0, 0))).cell? ⟨w.heap.size, 0, none⟩ = some (.int .i64 11) := by rw [cell_of_row _ _ _ _ _ _ HF2.out]; rfl
    have hc5 : (w.alloc (.cells #[.int .i64 11, .string i, .string f, .string g, .string y, .int .i64 a, .int .i64 d, .string t] 85 (0, 0))).cell? ⟨w.heap.size, 1, none⟩ = some (.string i) := by rw [cell_of_row _ _ _ _ _ _ HF2.out]; rfl
    have hc6 : (w.alloc (.cells #[.int .i64 11, .string i, .string f, .string g, .string y, .int .i64 a, .int .i64 d, .string t] 85 (0, 0))).cell? ⟨w.heap.size, 2, none⟩ = some (.string f) := by rw [cell_of_row _ _ _ _ _ _ HF2.out]; rfl
    have hc7 : (w.alloc (.cells #[.int .i64 11, .string i, .string f, .string g, .string y, .int .i64 a, .int .i64 d, .string t] 85 (0, 0))).cell? ⟨w.heap.size, 3, none⟩ = some (.string g) := by rw [cell_of_row _ _ _ _ _ _ HF2.out]; rfl
    have hc8 : (w.alloc (.cells #[.int .i64 11, .string i, .string f, .string g, .string y, .int .i64 a, .int .i64 d, .string t] 85 (0, 0))).cell? ⟨w.heap.size, 4, none⟩ = some (.string y) := by rw [cell_of_row _ _ _ _ _ _ HF2.out]; rfl
    have hc9 : (w.alloc (.cells #[.int .i64 11, .string i, .string f, .string g, .string y, .int .i64 a, .int .i64 d, .string t] 85 (0, 0))).cell? ⟨w.heap.size, 5, none⟩ = some (.int .i64 a) := by rw [cell_of_row _ _ _ _ _ _ HF2.out]; rfl
    have hc10 : (w.alloc (.cells #[.int .i64 11, .string i, .string f, .string g, .string y, .int .i64 a, .int .i64 d, .string t] 85 (0, 0))).cell? ⟨w.heap.size, 6, none⟩ = some (.int .i64 d) := by rw [cell_of_row _ _ _ _ _ _ HF2.out]; rfl
    have hc11 : (w.alloc (.cells #[.int .i64 11, .string i, .string f, .string g, .string y, .int .i64 a, .int .i64 d, .string t] 85 (0, 0))).cell? ⟨w.heap.size, 7, none⟩ = some (.string t) := by rw [cell_of_row _ _ _ _ _ _ HF2.out]; rfl
    have HF12 := Lib.hid (blk_alloc HF2.out (.cells #[.string i] 9 (0, 0)))
    clear HF2
    have HF13 : Hid (((w.alloc (.cells #[.int .i64 11, .string i, .string f, .string g, .string y, .int .i64 a, .int .i64 d, .string t] 85 (0, 0))).alloc (.cells #[.string i] 9 (0, 0))).heap[w.heap.size + 1]? = some (.cells #[.string i] 9 (0, 0))) := Lib.hid (blk_newN (W := (w.alloc (.cells #[.int .i64 11, .string i, .string f, .string g, .string y, .int .i64 a, .int .i64 d, .string t] 85 (0, 0)))) (o := (.cells #[.string i] 9 (0, 0))) (by simp))
    have HB14 := Lib.hid (HB3.out.alloc (by have := HB3.out.size; simp at this ⊢ <;> omega) (.cells #[.string i] 9 (0, 0)))
    clear HB3
    have hc15 : ((w.alloc (.cells #[.int .i64 11, .string i, .string f, .string g, .string y, .int .i64 a, .int .i64 d, .string t] 85 (0, 0))).alloc (.cells #[.string i] 9 (0, 0))).cell? ⟨w.heap.size, 0, none⟩ = some (.int .i64 11) := by rw [cell_of_row _ _ _ _ _ _ HF12.out]; rfl
    have hc16 : ((w.alloc (.cells #[.int .i64 11, .string i, .string f, .string g, .string y, .int .i64 a, .int .i64 d, .string t] 85 (0, 0))).alloc (.cells #[.string i] 9 (0, 0))).cell? ⟨w.heap.size, 1, none⟩ = some (.string i) := by rw [cell_of_row _ _ _ _ _ _ HF12.out]; rfl
    have hc17 : ((w.alloc (.cells #[.int .i64 11, .string i, .string f, .string g, .string y, .int .i64 a, .int .i64 d, .string t] 85 (0, 0))).alloc (.cells #[.string i] 9 (0, 0))).cell? ⟨w.heap.size, 2, none⟩ = some (.string f) := by rw [cell_of_row _ _ _ _ _ _ HF12.out]; rfl
    have hc18 : ((w.alloc (.cells #[.int .i64 11, .string i, .string f, .string g, .string y, .int .i64 a, .int .i64 d, .string t] 85 (0, 0))).alloc (.cells #[.string i] 9 (0, 0))).cell? ⟨w.heap.size, 3, none⟩ = some (.string g) := by rw [cell_of_row _ _ _ _ _ _ HF12.out]; rfl
    have hc19 : ((w.alloc (.cells #[.int .i64 11, .string i, .string f, .string g, .string y, .int .i64 a, .int .i64 d, .string t] 85 (0, 0))).alloc (.cells #[.string i] 9 (0, 0))).cell? ⟨w.heap.size, 4, none⟩ = some (.string y) := by rw [cell_of_row _ _ _ _ _ _ HF12.out]; rfl
    have hc20 : ((w.alloc (.cells #[.int .i64 11, .string i, .string f, .string g, .string y, .int .i64 a, .int .i64 d, .string t] 85 (0, 0))).alloc (.cells #[.string i] 9 (0, 0))).cell? ⟨w.heap.size, 5, none⟩ = some (.int .i64 a) := by rw [cell_of_row _ _ _ _ _ _ HF12.out]; rfl
    have hc21 : ((w.alloc (.cells #[.int .i64 11, .string i, .string f, .string g, .string y, .int .i64 a, .int .i64 d, .string t] 85 (0, 0))).alloc (.cells #[.string i] 9 (0, 0))).cell? ⟨w.heap.size, 6, none⟩ = some (.int .i64 d) := by rw [cell_of_row _ _ _ _ _ _ HF12.out]; rfl
    have hc22 : ((w.alloc (.cells #[.int .i64 11, .string i, .string f, .string g, .string y, .int .i64 a, .int .i64 d, .string t] 85 (0, 0))).alloc (.cells #[.string i] 9 (0, 0))).cell? ⟨w.heap.size, 7, none⟩ = some (.string t) := by rw [cell_of_row _ _ _ _ _ _ HF12.out]; rfl
    have HF23 := Lib.hid (blk_alloc HF12.out (.cells #[.string y, .int .i64 a, .int .i64 d, .string t] 139 (0, 0)))
    clear HF12
    have HF24 := Lib.hid (blk_alloc HF13.out (.cells #[.string y, .int .i64 a, .int .i64 d, .string t] 139 (0, 0)))
    clear HF13
    have HF25 : Hid ((((w.alloc (.cells #[.int .i64 11, .string i, .string f, .string g, .string y, .int .i64 a, .int .i64 d, .string t] 85 (0, 0))).alloc (.cells #[.string i] 9 (0, 0))).alloc (.cells #[.string y, .int .i64 a, .int .i64 d, .string t] 139 (0, 0))).heap[w.heap.size + 2]? = some (.cells #[.string y, .int .i64 a, .int .i64 d, .string t] 139 (0, 0))) := Lib.hid (blk_newN (W := ((w.alloc (.cells #[.int .i64 11, .string i, .string f, .string g, .string y, .int .i64 a, .int .i64 d, .string t] 85 (0, 0))).alloc (.cells #[.string i] 9 (0, 0)))) (o := (.cells #[.string y, .int .i64 a, .int .i64 d, .string t] 139 (0, 0))) (by simp))
    have HB26 := Lib.hid (HB14.out.alloc (by have := HB14.out.size; simp at this ⊢ <;> omega) (.cells #[.string y, .int .i64 a, .int .i64 d, .string t] 139 (0, 0)))
    clear HB14
    have hc27 : (((w.alloc (.cells #[.int .i64 11, .string i, .string f, .string g, .string y, .int .i64 a, .int .i64 d, .string t] 85 (0, 0))).alloc (.cells #[.string i] 9 (0, 0))).alloc (.cells #[.string y, .int .i64 a, .int .i64 d, .string t] 139 (0, 0))).cell? ⟨w.heap.size, 0, none⟩ = some (.int .i64 11) := by rw [cell_of_row _ _ _ _ _ _ HF23.out]; rfl
    have hc28 : (((w.alloc (.cells #[.int .i64 11, .string i, .string f, .string g, .string y, .int .i64 a, .int .i64 d, .string t] 85 (0, 0))).alloc (.cells #[.string i] 9 (0, 0))).alloc (.cells #[.string y, .int .i64 a, .int .i64 d, .string t] 139 (0, 0))).cell? ⟨w.heap.size, 1, none⟩ = some (.string i) := by rw [cell_of_row _ _ _ _ _ _ HF23.out]; rfl
    have hc29 : (((w.alloc (.cells #[.int .i64 11, .string i, .string f, .string g, .string y, .int .i64 a, .int .i64 d, .string t] 85 (0, 0))).alloc (.cells #[.string i] 9 (0, 0))).alloc (.cells #[.string y, .int .i64 a, .int .i64 d, .string t] 139 (0, 0))).cell? ⟨w.heap.size, 2, none⟩ = some (.string f) := by rw [cell_of_row _ _ _ _ _ _ HF23.out]; rfl
    have hc30 : (((w.alloc (.cells #[.int .i64 11, .string i, .string f, .string g, .string y, .int .i64 a, .int .i64 d, .string t] 85 (0, 0))).alloc (.cells #[.string i] 9 (0, 0))).alloc (.cells #[.string y, .int .i64 a, .int .i64 d, .string t] 139 (0, 0))).cell? ⟨w.heap.size, 3, none⟩ = some (.string g) := by rw [cell_of_row _ _ _ _ _ _ HF23.out]; rfl
    have hc31 : (((w.alloc (.cells #[.int .i64 11, .string i, .string f, .string g, .string y, .int .i64 a, .int .i64 d, .string t] 85 (0, 0))).alloc (.cells #[.string i] 9 (0, 0))).alloc (.cells #[.string y, .int .i64 a, .int .i64 d, .string t] 139 (0, 0))).cell? ⟨w.heap.size, 4, none⟩ = some (.string y) := by rw [cell_of_row _ _ _ _ _ _ HF23.out]; rfl
    have hc32 : (((w.alloc (.cells #[.int .i64 11, .string i, .string f, .string g, .string y, .int .i64 a, .int .i64 d, .string t] 85 (0, 0))).alloc (.cells #[.string i] 9 (0, 0))).alloc (.cells #[.string y, .int .i64 a, .int .i64 d, .string t] 139 (0, 0))).cell? ⟨w.heap.size, 5, none⟩ = some (.int .i64 a) := by rw [cell_of_row _ _ _ _ _ _ HF23.out]; rfl
    have hc33 : (((w.alloc (.cells #[.int .i64 11, .string i, .string f, .string g, .string y, .int .i64 a, .int .i64 d, .string t] 85 (0, 0))).alloc (.cells #[.string i] 9 (0, 0))).alloc (.cells #[.string y, .int .i64 a, .int .i64 d, .string t] 139 (0, 0))).cell? ⟨w.heap.size, 6, none⟩ = some (.int .i64 d) := by rw [cell_of_row _ _ _ _ _ _ HF23.out]; rfl
    have hc34 : (((w.alloc (.cells #[.int .i64 11, .string i, .string f, .string g, .string y, .int .i64 a, .int .i64 d, .string t] 85 (0, 0))).alloc (.cells #[.string i] 9 (0, 0))).alloc (.cells #[.string y, .int .i64 a, .int .i64 d, .string t] 139 (0, 0))).cell? ⟨w.heap.size, 7, none⟩ = some (.string t) := by rw [cell_of_row _ _ _ _ _ _ HF23.out]; rfl
    go_wp2_with fail
    clear hc4 hc5 hc6 hc7 hc8 hc9 hc10 hc11 hc15 hc16 hc17 hc18 hc19 hc20 hc21 hc22 hc27 hc28 hc29 hc30 hc31 hc32 hc33 hc34
    refine (HP.out (((w.alloc (.cells #[.int .i64 11, .string i, .string f, .string g, .string y, .int .i64 a, .int .i64 d, .string t] 85 (0, 0))).alloc (.cells #[.string i] 9 (0, 0))).alloc (.cells #[.string y, .int .i64 a, .int .i64 d, .string t] 139 (0, 0))) _ (rd_blk (f := prC) (s := 4) (fun _ => rfl) [(y, a, d, t)] HF25.out rfl)).mono ?_
    rintro e w1 ⟨rfl, hb1⟩
    have HF35 := Lib.hid (blk_below HF23.out hb1)
    have HF36 := Lib.hid (blk_below HF24.out hb1)
    have HF37 := Lib.hid (blk_below HF25.out hb1)
    have HB38 := Lib.hid (HB26.out.trans (hb1.mono HB26.out.size))
    clear hb1 HB26 HF23 HF24 HF25
    go_wp2_with fail
    obtain ⟨L, hL⟩ : ∃ L : List ByteArray, L = [i] := ⟨_, rfl⟩
    have HRD := Lib.hid (show RdX stC 1 w1 (some ⟨w.heap.size + 1, 0, none⟩) 1 L by rw [hL]; exact rd_blk (f := stC) (s := 1) (fun _ => rfl) [i] HF36.out rfl)
    have HSZ : Hid (∀ s ∈ L, s.size ≤ maxLen) := Lib.hid (by rw [hL]; intro s hs; simp at hs; rcases hs with rfl <;> assumption)
    have HLN := Lib.hid (show L.length = 1 by rw [hL]; rfl)
    have HEV := Lib.hid (show (if L.all nm = true then (0 : Int) else 2) = rightE (rightB 11 i f g y a d t) by rw [hL]; have h1 := HO.out; unfold okP at h1; simp at h1; unfold rightE rightB; simp [h1])
    clear hL
    go_loop [53] (fun j => ∃ q : Nat, j = .int .i64 (q : Int) ∧ q ≤ 1 ∧ Hid ((L.take q).all nm = true)) (fun j => 1 - (intOf j).toNat)
    case atStart => exact ⟨0, rfl, Nat.zero_le _, Lib.hid rfl⟩
    case round =>
      obtain ⟨q, rfl, hq, HI⟩ := hrel
      by_cases hlt : q < 1
      · have hd1 : decide ((q : Int) < 1) = true := decide_eq_true (by omega)
        have hl : q < L.length := by rw [HLN.out]; exact hlt
        have HX := Lib.hid (List.getElem?_eq_getElem hl)
        have hsz := HSZ.out _ (List.getElem_mem hl)
        have HAT := Lib.hid (List.take_succ_eq_append_getElem hl)
        have HMEM := Lib.hid (List.getElem_mem hl)
        obtain ⟨s, hs⟩ : ∃ s, s = L[q] := ⟨_, rfl⟩
        rw [← hs] at HX hsz HAT HMEM
        clear hs
        have hc : w1.cell? ⟨w.heap.size + 1, q, none⟩ = some (.string s) := by have h := HRD.out.cellAt HX.out (by omega) 0 _ rfl; simpa using h
        have hi0 : (0 : Int) ≤ (q : Int) := by omega
        have hi1 : (q : Int) < 1 := by omega
        have HC := Lib.hid (fun W : World => ncheck_any s W hsz)
        cases hn : nm s with
        | false =>
          have HE := Lib.hid (show (2 : Int) = rightE (rightB 11 i f g y a d t) by
            rw [← HEV.out, if_neg]
            intro h
            rw [List.all_eq_true.1 h s HMEM.out] at hn
            cases hn)
          rw [nck_no s hn] at HC
          clear hn
          go_wp2_with fail
          refine (HC.out _).mono ?_
          rintro e w' ⟨rfl, rfl⟩
          go_wp2_with fail
          go_ret
          exact ⟨retI HE.out, HB38.out⟩
        | true =>
          have HJ := Lib.hid (show (L.take (q + 1)).all nm = true by rw [HAT.out, List.all_append, HI.out]; simp [hn])
          rw [nck_yes s hn] at HC
          clear hn
          go_wp2_with fail
          refine (HC.out _).mono ?_
          rintro e w' ⟨rfl, rfl⟩
          go_wp2_with fail
          go_round
          case rel => exact ⟨q + 1, by go_num, by omega, HJ⟩
          case measure => simp [intOf] <;> omega
      · have hd1 : decide ((q : Int) < 1) = false := decide_eq_false (by omega)
        have HE := Lib.hid (show (0 : Int) = rightE (rightB 11 i f g y a d t) by rw [← HEV.out, if_pos]; rw [← List.take_of_length_le (l := L) (i := q) (by rw [HLN.out]; omega)]; exact HI.out)
        go_wp2_with fail
        go_ret
        exact ⟨retI HE.out, HB38.out⟩
set_option maxRecDepth 100000 in
set_option maxHeartbeats 4000000 in
theorem gright_12 (i f g y : ByteArray) (a d : Int) (t : ByteArray) (w : World) (hi : i.size ≤ maxLen) (_hf : f.size ≤ maxLen) (_hg : g.size ≤ maxLen) (hy : y.size ≤ maxLen) :
    Calls Try.prog 48 #[.agg #[.int .i64 12, .string i, .string f, .string g, .string y, .int .i64 a, .int .i64 d, .string t]] w fun e w' => e = .returned (.int .i64 (rightE (rightB 12 i f g y a d t))) ∧ Below w.heap.size w w' := by
  have HB1 := Lib.hid (Below.refl w.heap.size w)
  go_enter Try.func48, Try.ntmps48
  have HF2 := Lib.hid (blk_new w (.cells #[.int .i64 12, .string i, .string f, .string g, .string y, .int .i64 a, .int .i64 d, .string t] 85 (0, 0)))
  have HB3 := Lib.hid (HB1.out.alloc HB1.out.size (.cells #[.int .i64 12, .string i, .string f, .string g, .string y, .int .i64 a, .int .i64 d, .string t] 85 (0, 0)))
  clear HB1
  have hc4 : (w.alloc (.cells #[.int .i64 12, .string i, .string f, .string g, .string y, .int .i64 a, .int .i64 d, .string t] 85 (0, 0))).cell? ⟨w.heap.size, 0, none⟩ = some (.int .i64 12) := by rw [cell_of_row _ _ _ _ _ _ HF2.out]; rfl
  have hc5 : (w.alloc (.cells #[.int .i64 12, .string i, .string f, .string g, .string y, .int .i64 a, .int .i64 d, .string t] 85 (0, 0))).cell? ⟨w.heap.size, 1, none⟩ = some (.string i) := by rw [cell_of_row _ _ _ _ _ _ HF2.out]; rfl
  have hc6 : (w.alloc (.cells #[.int .i64 12, .string i, .string f, .string g, .string y, .int .i64 a, .int .i64 d, .string t] 85 (0, 0))).cell? ⟨w.heap.size, 2, none⟩ = some (.string f) := by rw [cell_of_row _ _ _ _ _ _ HF2.out]; rfl
  have hc7 : (w.alloc (.cells #[.int .i64 12, .string i, .string f, .string g, .string y, .int .i64 a, .int .i64 d, .string t] 85 (0, 0))).cell? ⟨w.heap.size, 3, none⟩ = some (.string g) := by rw [cell_of_row _ _ _ _ _ _ HF2.out]; rfl
  have hc8 : (w.alloc (.cells #[.int .i64 12, .string i, .string f, .string g, .string y, .int .i64 a, .int .i64 d, .string t] 85 (0, 0))).cell? ⟨w.heap.size, 4, none⟩ = some (.string y) := by rw [cell_of_row _ _ _ _ _ _ HF2.out]; rfl
  have hc9 : (w.alloc (.cells #[.int .i64 12, .string i, .string f, .string g, .string y, .int .i64 a, .int .i64 d, .string t] 85 (0, 0))).cell? ⟨w.heap.size, 5, none⟩ = some (.int .i64 a) := by rw [cell_of_row _ _ _ _ _ _ HF2.out]; rfl
  have hc10 : (w.alloc (.cells #[.int .i64 12, .string i, .string f, .string g, .string y, .int .i64 a, .int .i64 d, .string t] 85 (0, 0))).cell? ⟨w.heap.size, 6, none⟩ = some (.int .i64 d) := by rw [cell_of_row _ _ _ _ _ _ HF2.out]; rfl
  have hc11 : (w.alloc (.cells #[.int .i64 12, .string i, .string f, .string g, .string y, .int .i64 a, .int .i64 d, .string t] 85 (0, 0))).cell? ⟨w.heap.size, 7, none⟩ = some (.string t) := by rw [cell_of_row _ _ _ _ _ _ HF2.out]; rfl
  have HF12 := Lib.hid (blk_alloc HF2.out (.cells #[.string i] 9 (0, 0)))
  clear HF2
  have HF13 : Hid (((w.alloc (.cells #[.int .i64 12, .string i, .string f, .string g, .string y, .int .i64 a, .int .i64 d, .string t] 85 (0, 0))).alloc (.cells #[.string i] 9 (0, 0))).heap[w.heap.size + 1]? = some (.cells #[.string i] 9 (0, 0))) := Lib.hid (blk_newN (W := (w.alloc (.cells #[.int .i64 12, .string i, .string f, .string g, .string y, .int .i64 a, .int .i64 d, .string t] 85 (0, 0)))) (o := (.cells #[.string i] 9 (0, 0))) (by simp))
  have HB14 := Lib.hid (HB3.out.alloc (by have := HB3.out.size; simp at this ⊢ <;> omega) (.cells #[.string i] 9 (0, 0)))
  clear HB3
  have hc15 : ((w.alloc (.cells #[.int .i64 12, .string i, .string f, .string g, .string y, .int .i64 a, .int .i64 d, .string t] 85 (0, 0))).alloc (.cells #[.string i] 9 (0, 0))).cell? ⟨w.heap.size, 0, none⟩ = some (.int .i64 12) := by rw [cell_of_row _ _ _ _ _ _ HF12.out]; rfl
  have hc16 : ((w.alloc (.cells #[.int .i64 12, .string i, .string f, .string g, .string y, .int .i64 a, .int .i64 d, .string t] 85 (0, 0))).alloc (.cells #[.string i] 9 (0, 0))).cell? ⟨w.heap.size, 1, none⟩ = some (.string i) := by rw [cell_of_row _ _ _ _ _ _ HF12.out]; rfl
  have hc17 : ((w.alloc (.cells #[.int .i64 12, .string i, .string f, .string g, .string y, .int .i64 a, .int .i64 d, .string t] 85 (0, 0))).alloc (.cells #[.string i] 9 (0, 0))).cell? ⟨w.heap.size, 2, none⟩ = some (.string f) := by rw [cell_of_row _ _ _ _ _ _ HF12.out]; rfl
  have hc18 : ((w.alloc (.cells #[.int .i64 12, .string i, .string f, .string g, .string y, .int .i64 a, .int .i64 d, .string t] 85 (0, 0))).alloc (.cells #[.string i] 9 (0, 0))).cell? ⟨w.heap.size, 3, none⟩ = some (.string g) := by rw [cell_of_row _ _ _ _ _ _ HF12.out]; rfl
  have hc19 : ((w.alloc (.cells #[.int .i64 12, .string i, .string f, .string g, .string y, .int .i64 a, .int .i64 d, .string t] 85 (0, 0))).alloc (.cells #[.string i] 9 (0, 0))).cell? ⟨w.heap.size, 4, none⟩ = some (.string y) := by rw [cell_of_row _ _ _ _ _ _ HF12.out]; rfl
  have hc20 : ((w.alloc (.cells #[.int .i64 12, .string i, .string f, .string g, .string y, .int .i64 a, .int .i64 d, .string t] 85 (0, 0))).alloc (.cells #[.string i] 9 (0, 0))).cell? ⟨w.heap.size, 5, none⟩ = some (.int .i64 a) := by rw [cell_of_row _ _ _ _ _ _ HF12.out]; rfl
  have hc21 : ((w.alloc (.cells #[.int .i64 12, .string i, .string f, .string g, .string y, .int .i64 a, .int .i64 d, .string t] 85 (0, 0))).alloc (.cells #[.string i] 9 (0, 0))).cell? ⟨w.heap.size, 6, none⟩ = some (.int .i64 d) := by rw [cell_of_row _ _ _ _ _ _ HF12.out]; rfl
  have hc22 : ((w.alloc (.cells #[.int .i64 12, .string i, .string f, .string g, .string y, .int .i64 a, .int .i64 d, .string t] 85 (0, 0))).alloc (.cells #[.string i] 9 (0, 0))).cell? ⟨w.heap.size, 7, none⟩ = some (.string t) := by rw [cell_of_row _ _ _ _ _ _ HF12.out]; rfl
  have HF23 := Lib.hid (blk_alloc HF12.out (.cells #[.string y] 9 (0, 0)))
  clear HF12
  have HF24 := Lib.hid (blk_alloc HF13.out (.cells #[.string y] 9 (0, 0)))
  clear HF13
  have HF25 : Hid ((((w.alloc (.cells #[.int .i64 12, .string i, .string f, .string g, .string y, .int .i64 a, .int .i64 d, .string t] 85 (0, 0))).alloc (.cells #[.string i] 9 (0, 0))).alloc (.cells #[.string y] 9 (0, 0))).heap[w.heap.size + 2]? = some (.cells #[.string y] 9 (0, 0))) := Lib.hid (blk_newN (W := ((w.alloc (.cells #[.int .i64 12, .string i, .string f, .string g, .string y, .int .i64 a, .int .i64 d, .string t] 85 (0, 0))).alloc (.cells #[.string i] 9 (0, 0)))) (o := (.cells #[.string y] 9 (0, 0))) (by simp))
  have HB26 := Lib.hid (HB14.out.alloc (by have := HB14.out.size; simp at this ⊢ <;> omega) (.cells #[.string y] 9 (0, 0)))
  clear HB14
  have hc27 : (((w.alloc (.cells #[.int .i64 12, .string i, .string f, .string g, .string y, .int .i64 a, .int .i64 d, .string t] 85 (0, 0))).alloc (.cells #[.string i] 9 (0, 0))).alloc (.cells #[.string y] 9 (0, 0))).cell? ⟨w.heap.size, 0, none⟩ = some (.int .i64 12) := by rw [cell_of_row _ _ _ _ _ _ HF23.out]; rfl
  have hc28 : (((w.alloc (.cells #[.int .i64 12, .string i, .string f, .string g, .string y, .int .i64 a, .int .i64 d, .string t] 85 (0, 0))).alloc (.cells #[.string i] 9 (0, 0))).alloc (.cells #[.string y] 9 (0, 0))).cell? ⟨w.heap.size, 1, none⟩ = some (.string i) := by rw [cell_of_row _ _ _ _ _ _ HF23.out]; rfl
  have hc29 : (((w.alloc (.cells #[.int .i64 12, .string i, .string f, .string g, .string y, .int .i64 a, .int .i64 d, .string t] 85 (0, 0))).alloc (.cells #[.string i] 9 (0, 0))).alloc (.cells #[.string y] 9 (0, 0))).cell? ⟨w.heap.size, 2, none⟩ = some (.string f) := by rw [cell_of_row _ _ _ _ _ _ HF23.out]; rfl
  have hc30 : (((w.alloc (.cells #[.int .i64 12, .string i, .string f, .string g, .string y, .int .i64 a, .int .i64 d, .string t] 85 (0, 0))).alloc (.cells #[.string i] 9 (0, 0))).alloc (.cells #[.string y] 9 (0, 0))).cell? ⟨w.heap.size, 3, none⟩ = some (.string g) := by rw [cell_of_row _ _ _ _ _ _ HF23.out]; rfl
  have hc31 : (((w.alloc (.cells #[.int .i64 12, .string i, .string f, .string g, .string y, .int .i64 a, .int .i64 d, .string t] 85 (0, 0))).alloc (.cells #[.string i] 9 (0, 0))).alloc (.cells #[.string y] 9 (0, 0))).cell? ⟨w.heap.size, 4, none⟩ = some (.string y) := by rw [cell_of_row _ _ _ _ _ _ HF23.out]; rfl
  have hc32 : (((w.alloc (.cells #[.int .i64 12, .string i, .string f, .string g, .string y, .int .i64 a, .int .i64 d, .string t] 85 (0, 0))).alloc (.cells #[.string i] 9 (0, 0))).alloc (.cells #[.string y] 9 (0, 0))).cell? ⟨w.heap.size, 5, none⟩ = some (.int .i64 a) := by rw [cell_of_row _ _ _ _ _ _ HF23.out]; rfl
  have hc33 : (((w.alloc (.cells #[.int .i64 12, .string i, .string f, .string g, .string y, .int .i64 a, .int .i64 d, .string t] 85 (0, 0))).alloc (.cells #[.string i] 9 (0, 0))).alloc (.cells #[.string y] 9 (0, 0))).cell? ⟨w.heap.size, 6, none⟩ = some (.int .i64 d) := by rw [cell_of_row _ _ _ _ _ _ HF23.out]; rfl
  have hc34 : (((w.alloc (.cells #[.int .i64 12, .string i, .string f, .string g, .string y, .int .i64 a, .int .i64 d, .string t] 85 (0, 0))).alloc (.cells #[.string i] 9 (0, 0))).alloc (.cells #[.string y] 9 (0, 0))).cell? ⟨w.heap.size, 7, none⟩ = some (.string t) := by rw [cell_of_row _ _ _ _ _ _ HF23.out]; rfl
  go_wp2_with (at_builtin; refine wpList_appXs rfl (.tmp 33) (.tmp 36) 42 9 _ 16 rfl Try.underlying42 info_stA rfl (by omega) (by omega) stC_len stC_one w.heap.size w HB26.out (by simp <;> omega) _ [i] rfl (ow_blk (f := stC) (s := 1) [i] HF24.out (by omega) rfl rfl (by unfold maxLen; simp)) (some ⟨w.heap.size + 2, 0, none⟩) 1 1 [y] rfl (rd_blk (f := stC) (s := 1) (fun _ => rfl) [y] HF25.out rfl) (by simp) ?_)
  intro v2 w2 HO2 HB2 HZ2 HG2
  clear hc4 hc5 hc6 hc7 hc8 hc9 hc10 hc11 hc15 hc16 hc17 hc18 hc19 hc20 hc21 hc22 hc27 hc28 hc29 hc30 hc31 hc32 hc33 hc34
  obtain ⟨A3, c3, hv3, hrd, _, _⟩ := HO2.out.rd stC_len
  obtain ⟨b3, o3, hA3, _, _⟩ := hrd.2 (by simp)
  have hv3 : v2 = .slice A3 2 c3 := hv3
  subst hv3 hA3
  have HR3 := Lib.hid hrd
  clear hrd
  go_wp2_with fail
  obtain ⟨L, hL⟩ : ∃ L : List ByteArray, L = [i, y] := ⟨_, rfl⟩
  have HRD := Lib.hid (show RdX stC 1 w2 (some ⟨b3, o3, none⟩) 2 L by rw [hL]; exact HR3.out)
  have HSZ : Hid (∀ s ∈ L, s.size ≤ maxLen) := Lib.hid (by rw [hL]; intro s hs; simp at hs; rcases hs with rfl | rfl <;> assumption)
  have HLN := Lib.hid (show L.length = 2 by rw [hL]; rfl)
  have HEV := Lib.hid (show (if L.all nm = true then (0 : Int) else 2) = rightE (rightB 12 i f g y a d t) by rw [hL]; unfold rightE rightB; simp)
  clear hL
  go_loop [53] (fun j => ∃ q : Nat, j = .int .i64 (q : Int) ∧ q ≤ 2 ∧ Hid ((L.take q).all nm = true)) (fun j => 2 - (intOf j).toNat)
  case atStart => exact ⟨0, rfl, Nat.zero_le _, Lib.hid rfl⟩
  case round =>
    obtain ⟨q, rfl, hq, HI⟩ := hrel
    by_cases hlt : q < 2
    · have hd1 : decide ((q : Int) < 2) = true := decide_eq_true (by omega)
      have hl : q < L.length := by rw [HLN.out]; exact hlt
      have HX := Lib.hid (List.getElem?_eq_getElem hl)
      have hsz := HSZ.out _ (List.getElem_mem hl)
      have HAT := Lib.hid (List.take_succ_eq_append_getElem hl)
      have HMEM := Lib.hid (List.getElem_mem hl)
      obtain ⟨s, hs⟩ : ∃ s, s = L[q] := ⟨_, rfl⟩
      rw [← hs] at HX hsz HAT HMEM
      clear hs
      have hc : w2.cell? ⟨b3, o3 + q, none⟩ = some (.string s) := by have h := HRD.out.cellAt HX.out (by omega) 0 _ rfl; simpa using h
      have hi0 : (0 : Int) ≤ (q : Int) := by omega
      have hi1 : (q : Int) < 2 := by omega
      have HC := Lib.hid (fun W : World => ncheck_any s W hsz)
      cases hn : nm s with
      | false =>
        have HE := Lib.hid (show (2 : Int) = rightE (rightB 12 i f g y a d t) by
          rw [← HEV.out, if_neg]
          intro h
          rw [List.all_eq_true.1 h s HMEM.out] at hn
          cases hn)
        rw [nck_no s hn] at HC
        clear hn
        go_wp2_with fail
        refine (HC.out _).mono ?_
        rintro e w' ⟨rfl, rfl⟩
        go_wp2_with fail
        go_ret
        exact ⟨retI HE.out, HB2.out⟩
      | true =>
        have HJ := Lib.hid (show (L.take (q + 1)).all nm = true by rw [HAT.out, List.all_append, HI.out]; simp [hn])
        rw [nck_yes s hn] at HC
        clear hn
        go_wp2_with fail
        refine (HC.out _).mono ?_
        rintro e w' ⟨rfl, rfl⟩
        go_wp2_with fail
        go_round
        case rel => exact ⟨q + 1, by go_num, by omega, HJ⟩
        case measure => simp [intOf] <;> omega
    · have hd1 : decide ((q : Int) < 2) = false := decide_eq_false (by omega)
      have HE := Lib.hid (show (0 : Int) = rightE (rightB 12 i f g y a d t) by rw [← HEV.out, if_pos]; rw [← List.take_of_length_le (l := L) (i := q) (by rw [HLN.out]; omega)]; exact HI.out)
      go_wp2_with fail
      go_ret
      exact ⟨retI HE.out, HB2.out⟩
set_option maxRecDepth 100000 in
set_option maxHeartbeats 2000000 in
theorem gright_no (k : Int) (i f g y : ByteArray) (a d : Int) (t : ByteArray) (w : World) (hk : k < 1 ∨ 12 < k) :
    Calls Try.prog 48 #[.agg #[.int .i64 k, .string i, .string f, .string g, .string y, .int .i64 a, .int .i64 d, .string t]] w fun e w' => e = .returned (.int .i64 2) ∧ Below w.heap.size w w' := by
  have e1 : (k == 1) = false := by simp; omega
  have e2 : (k == 2) = false := by simp; omega
  have e3 : (k == 3) = false := by simp; omega
  have e4 : (k == 4) = false := by simp; omega
  have e5 : (k == 5) = false := by simp; omega
  have e6 : (k == 6) = false := by simp; omega
  have e7 : (k == 7) = false := by simp; omega
  have e8 : (k == 8) = false := by simp; omega
  have e9 : (k == 9) = false := by simp; omega
  have e10 : (k == 10) = false := by simp; omega
  have e11 : (k == 11) = false := by simp; omega
  have e12 : (k == 12) = false := by simp; omega
  clear hk
  have HB1 := Lib.hid (Below.refl w.heap.size w)
  go_enter Try.func48, Try.ntmps48
  have HF2 := Lib.hid (blk_new w (.cells #[.int .i64 k, .string i, .string f, .string g, .string y, .int .i64 a, .int .i64 d, .string t] 85 (0, 0)))
  have HB3 := Lib.hid (HB1.out.alloc HB1.out.size (.cells #[.int .i64 k, .string i, .string f, .string g, .string y, .int .i64 a, .int .i64 d, .string t] 85 (0, 0)))
  clear HB1
  have hc4 : (w.alloc (.cells #[.int .i64 k, .string i, .string f, .string g, .string y, .int .i64 a, .int .i64 d, .string t] 85 (0, 0))).cell? ⟨w.heap.size, 0, none⟩ = some (.int .i64 k) := by rw [cell_of_row _ _ _ _ _ _ HF2.out]; rfl
  have hc5 : (w.alloc (.cells #[.int .i64 k, .string i, .string f, .string g, .string y, .int .i64 a, .int .i64 d, .string t] 85 (0, 0))).cell? ⟨w.heap.size, 1, none⟩ = some (.string i) := by rw [cell_of_row _ _ _ _ _ _ HF2.out]; rfl
  have hc6 : (w.alloc (.cells #[.int .i64 k, .string i, .string f, .string g, .string y, .int .i64 a, .int .i64 d, .string t] 85 (0, 0))).cell? ⟨w.heap.size, 2, none⟩ = some (.string f) := by rw [cell_of_row _ _ _ _ _ _ HF2.out]; rfl
  have hc7 : (w.alloc (.cells #[.int .i64 k, .string i, .string f, .string g, .string y, .int .i64 a, .int .i64 d, .string t] 85 (0, 0))).cell? ⟨w.heap.size, 3, none⟩ = some (.string g) := by rw [cell_of_row _ _ _ _ _ _ HF2.out]; rfl
  have hc8 : (w.alloc (.cells #[.int .i64 k, .string i, .string f, .string g, .string y, .int .i64 a, .int .i64 d, .string t] 85 (0, 0))).cell? ⟨w.heap.size, 4, none⟩ = some (.string y) := by rw [cell_of_row _ _ _ _ _ _ HF2.out]; rfl
  have hc9 : (w.alloc (.cells #[.int .i64 k, .string i, .string f, .string g, .string y, .int .i64 a, .int .i64 d, .string t] 85 (0, 0))).cell? ⟨w.heap.size, 5, none⟩ = some (.int .i64 a) := by rw [cell_of_row _ _ _ _ _ _ HF2.out]; rfl
  have hc10 : (w.alloc (.cells #[.int .i64 k, .string i, .string f, .string g, .string y, .int .i64 a, .int .i64 d, .string t] 85 (0, 0))).cell? ⟨w.heap.size, 6, none⟩ = some (.int .i64 d) := by rw [cell_of_row _ _ _ _ _ _ HF2.out]; rfl
  have hc11 : (w.alloc (.cells #[.int .i64 k, .string i, .string f, .string g, .string y, .int .i64 a, .int .i64 d, .string t] 85 (0, 0))).cell? ⟨w.heap.size, 7, none⟩ = some (.string t) := by rw [cell_of_row _ _ _ _ _ _ HF2.out]; rfl
  have HF12 := Lib.hid (blk_alloc HF2.out (.cells #[.string i] 9 (0, 0)))
  clear HF2
  have HF13 : Hid (((w.alloc (.cells #[.int .i64 k, .string i, .string f, .string g, .string y, .int .i64 a, .int .i64 d, .string t] 85 (0, 0))).alloc (.cells #[.string i] 9 (0, 0))).heap[w.heap.size + 1]? = some (.cells #[.string i] 9 (0, 0))) := Lib.hid (blk_newN (W := (w.alloc (.cells #[.int .i64 k, .string i, .string f, .string g, .string y, .int .i64 a, .int .i64 d, .string t] 85 (0, 0)))) (o := (.cells #[.string i] 9 (0, 0))) (by simp))
  have HB14 := Lib.hid (HB3.out.alloc (by have := HB3.out.size; simp at this ⊢ <;> omega) (.cells #[.string i] 9 (0, 0)))
  clear HB3
  have hc15 : ((w.alloc (.cells #[.int .i64 k, .string i, .string f, .string g, .string y, .int .i64 a, .int .i64 d, .string t] 85 (0, 0))).alloc (.cells #[.string i] 9 (0, 0))).cell? ⟨w.heap.size, 0, none⟩ = some (.int .i64 k) := by rw [cell_of_row _ _ _ _ _ _ HF12.out]; rfl
  have hc16 : ((w.alloc (.cells #[.int .i64 k, .string i, .string f, .string g, .string y, .int .i64 a, .int .i64 d, .string t] 85 (0, 0))).alloc (.cells #[.string i] 9 (0, 0))).cell? ⟨w.heap.size, 1, none⟩ = some (.string i) := by rw [cell_of_row _ _ _ _ _ _ HF12.out]; rfl
  have hc17 : ((w.alloc (.cells #[.int .i64 k, .string i, .string f, .string g, .string y, .int .i64 a, .int .i64 d, .string t] 85 (0, 0))).alloc (.cells #[.string i] 9 (0, 0))).cell? ⟨w.heap.size, 2, none⟩ = some (.string f) := by rw [cell_of_row _ _ _ _ _ _ HF12.out]; rfl
  have hc18 : ((w.alloc (.cells #[.int .i64 k, .string i, .string f, .string g, .string y, .int .i64 a, .int .i64 d, .string t] 85 (0, 0))).alloc (.cells #[.string i] 9 (0, 0))).cell? ⟨w.heap.size, 3, none⟩ = some (.string g) := by rw [cell_of_row _ _ _ _ _ _ HF12.out]; rfl
  have hc19 : ((w.alloc (.cells #[.int .i64 k, .string i, .string f, .string g, .string y, .int .i64 a, .int .i64 d, .string t] 85 (0, 0))).alloc (.cells #[.string i] 9 (0, 0))).cell? ⟨w.heap.size, 4, none⟩ = some (.string y) := by rw [cell_of_row _ _ _ _ _ _ HF12.out]; rfl
  have hc20 : ((w.alloc (.cells #[.int .i64 k, .string i, .string f, .string g, .string y, .int .i64 a, .int .i64 d, .string t] 85 (0, 0))).alloc (.cells #[.string i] 9 (0, 0))).cell? ⟨w.heap.size, 5, none⟩ = some (.int .i64 a) := by rw [cell_of_row _ _ _ _ _ _ HF12.out]; rfl
  have hc21 : ((w.alloc (.cells #[.int .i64 k, .string i, .string f, .string g, .string y, .int .i64 a, .int .i64 d, .string t] 85 (0, 0))).alloc (.cells #[.string i] 9 (0, 0))).cell? ⟨w.heap.size, 6, none⟩ = some (.int .i64 d) := by rw [cell_of_row _ _ _ _ _ _ HF12.out]; rfl
  have hc22 : ((w.alloc (.cells #[.int .i64 k, .string i, .string f, .string g, .string y, .int .i64 a, .int .i64 d, .string t] 85 (0, 0))).alloc (.cells #[.string i] 9 (0, 0))).cell? ⟨w.heap.size, 7, none⟩ = some (.string t) := by rw [cell_of_row _ _ _ _ _ _ HF12.out]; rfl
  go_wp2_with fail
  clear hc4 hc5 hc6 hc7 hc8 hc9 hc10 hc11 hc15 hc16 hc17 hc18 hc19 hc20 hc21 hc22
  go_ret
  exact ⟨rfl, HB14.out⟩
end Go.Proofs.Ytjnichiblljmjaa
