/- graph.Right of an edge that is added. Conditions: texts that are no longer than a text may be. -/
import Derived.Test.YtagenkofoacajaaGreatOpa
import Derived.Test.YtagenkofoacajaaGreatPm
import Derived.Test.YtagenkofoacajaaGreatPx
import Derived.IntWalk
import Derived.Lib.MinMax
namespace Go.Proofs.YtagenkofoacajaaGreat
open Go.RowKit Vi

/-- may be what an op names? -/
def rightB (k : Int) (i f g y : ByteArray) (a d : Int) (t : ByteArray) : Bool :=
  nm i && (decide (1 ≤ k) && decide (k ≤ 12)) && (if k = 3 then nm f && nm g else if k < 5 then true else nm y && (if k = 9 ∨ k = 11 then vok a d t else true))
def rightE (b : Bool) : Int := if b = true then 0 else 2
theorem ow_blk {α : Type} {f : α → List Value} {s : Nat} {w : World} {b B : Nat} {T : TypeId} {cs : Array Value} (l : List α) (h : w.heap[b]? = some (.cells cs T (0, 0))) (hB : B ≤ b) (hc : cs.toList = flat f l) (hl : (flat f l).length = l.length * s) (hm : l.length ≤ maxLen) : OwX f s T w B (.slice (some ⟨b, 0, none⟩) l.length l.length) l :=
  ⟨hl, .inr ⟨b, l.length, cs, rfl, hB, h, Nat.le_refl _, hm, by rw [← Array.length_toList, hc, hl], by rw [hc, List.take_of_length_le (by omega)]⟩⟩
set_option maxRecDepth 100000 in
set_option maxHeartbeats 4000000 in
theorem gright_3 (i f g y : ByteArray) (a d : Int) (t : ByteArray) (w : World) (hi : i.size ≤ maxLen) (hf : f.size ≤ maxLen) (hg : g.size ≤ maxLen) (_hy : y.size ≤ maxLen) :
    Calls Tryz.prog 57 #[.agg #[.int .i64 3, .string i, .string f, .string g, .string y, .int .i64 a, .int .i64 d, .string t]] w fun e w' => e = .returned (.int .i64 (rightE (rightB 3 i f g y a d t))) ∧ Below w.heap.size w w' := by
  have HB1 := Lib.hid (Below.refl w.heap.size w)
  go_enter Tryz.func57, Tryz.ntmps57
  have HF2 := Lib.hid (blk_new w (.cells #[.int .i64 3, .string i, .string f, .string g, .string y, .int .i64 a, .int .i64 d, .string t] 63 (0, 0)))
  have HB3 := Lib.hid (HB1.out.alloc HB1.out.size (.cells #[.int .i64 3, .string i, .string f, .string g, .string y, .int .i64 a, .int .i64 d, .string t] 63 (0, 0)))
  clear HB1
  have hc4 : (w.alloc (.cells #[.int .i64 3, .string i, .string f, .string g, .string y, .int .i64 a, .int .i64 d, .string t] 63 (0, 0))).cell? ⟨w.heap.size, 0, none⟩ = some (.int .i64 3) := by rw [cell_of_row _ _ _ _ _ _ HF2.out]; rfl
  have hc5 : (w.alloc (.cells #[.int .i64 3, .string i, .string f, .string g, .string y, .int .i64 a, .int .i64 d, .string t] 63 (0, 0))).cell? ⟨w.heap.size, 1, none⟩ = some (.string i) := by rw [cell_of_row _ _ _ _ _ _ HF2.out]; rfl
  have hc6 : (w.alloc (.cells #[.int .i64 3, .string i, .string f, .string g, .string y, .int .i64 a, .int .i64 d, .string t] 63 (0, 0))).cell? ⟨w.heap.size, 2, none⟩ = some (.string f) := by rw [cell_of_row _ _ _ _ _ _ HF2.out]; rfl
  have hc7 : (w.alloc (.cells #[.int .i64 3, .string i, .string f, .string g, .string y, .int .i64 a, .int .i64 d, .string t] 63 (0, 0))).cell? ⟨w.heap.size, 3, none⟩ = some (.string g) := by rw [cell_of_row _ _ _ _ _ _ HF2.out]; rfl
  have hc8 : (w.alloc (.cells #[.int .i64 3, .string i, .string f, .string g, .string y, .int .i64 a, .int .i64 d, .string t] 63 (0, 0))).cell? ⟨w.heap.size, 4, none⟩ = some (.string y) := by rw [cell_of_row _ _ _ _ _ _ HF2.out]; rfl
  have hc9 : (w.alloc (.cells #[.int .i64 3, .string i, .string f, .string g, .string y, .int .i64 a, .int .i64 d, .string t] 63 (0, 0))).cell? ⟨w.heap.size, 5, none⟩ = some (.int .i64 a) := by rw [cell_of_row _ _ _ _ _ _ HF2.out]; rfl
  have hc10 : (w.alloc (.cells #[.int .i64 3, .string i, .string f, .string g, .string y, .int .i64 a, .int .i64 d, .string t] 63 (0, 0))).cell? ⟨w.heap.size, 6, none⟩ = some (.int .i64 d) := by rw [cell_of_row _ _ _ _ _ _ HF2.out]; rfl
  have hc11 : (w.alloc (.cells #[.int .i64 3, .string i, .string f, .string g, .string y, .int .i64 a, .int .i64 d, .string t] 63 (0, 0))).cell? ⟨w.heap.size, 7, none⟩ = some (.string t) := by rw [cell_of_row _ _ _ _ _ _ HF2.out]; rfl
  have HF12 := Lib.hid (blk_alloc HF2.out (.cells #[.string i] 9 (0, 0)))
  clear HF2
  have HF13 : Hid (((w.alloc (.cells #[.int .i64 3, .string i, .string f, .string g, .string y, .int .i64 a, .int .i64 d, .string t] 63 (0, 0))).alloc (.cells #[.string i] 9 (0, 0))).heap[w.heap.size + 1]? = some (.cells #[.string i] 9 (0, 0))) := Lib.hid (blk_newN (W := (w.alloc (.cells #[.int .i64 3, .string i, .string f, .string g, .string y, .int .i64 a, .int .i64 d, .string t] 63 (0, 0)))) (o := (.cells #[.string i] 9 (0, 0))) (by simp))
  have HB14 := Lib.hid (HB3.out.alloc (by have := HB3.out.size; simp at this ⊢ <;> omega) (.cells #[.string i] 9 (0, 0)))
  clear HB3
  have hc15 : ((w.alloc (.cells #[.int .i64 3, .string i, .string f, .string g, .string y, .int .i64 a, .int .i64 d, .string t] 63 (0, 0))).alloc (.cells #[.string i] 9 (0, 0))).cell? ⟨w.heap.size, 0, none⟩ = some (.int .i64 3) := by rw [cell_of_row _ _ _ _ _ _ HF12.out]; rfl
  have hc16 : ((w.alloc (.cells #[.int .i64 3, .string i, .string f, .string g, .string y, .int .i64 a, .int .i64 d, .string t] 63 (0, 0))).alloc (.cells #[.string i] 9 (0, 0))).cell? ⟨w.heap.size, 1, none⟩ = some (.string i) := by rw [cell_of_row _ _ _ _ _ _ HF12.out]; rfl
  have hc17 : ((w.alloc (.cells #[.int .i64 3, .string i, .string f, .string g, .string y, .int .i64 a, .int .i64 d, .string t] 63 (0, 0))).alloc (.cells #[.string i] 9 (0, 0))).cell? ⟨w.heap.size, 2, none⟩ = some (.string f) := by rw [cell_of_row _ _ _ _ _ _ HF12.out]; rfl
  have hc18 : ((w.alloc (.cells #[.int .i64 3, .string i, .string f, .string g, .string y, .int .i64 a, .int .i64 d, .string t] 63 (0, 0))).alloc (.cells #[.string i] 9 (0, 0))).cell? ⟨w.heap.size, 3, none⟩ = some (.string g) := by rw [cell_of_row _ _ _ _ _ _ HF12.out]; rfl
  have hc19 : ((w.alloc (.cells #[.int .i64 3, .string i, .string f, .string g, .string y, .int .i64 a, .int .i64 d, .string t] 63 (0, 0))).alloc (.cells #[.string i] 9 (0, 0))).cell? ⟨w.heap.size, 4, none⟩ = some (.string y) := by rw [cell_of_row _ _ _ _ _ _ HF12.out]; rfl
  have hc20 : ((w.alloc (.cells #[.int .i64 3, .string i, .string f, .string g, .string y, .int .i64 a, .int .i64 d, .string t] 63 (0, 0))).alloc (.cells #[.string i] 9 (0, 0))).cell? ⟨w.heap.size, 5, none⟩ = some (.int .i64 a) := by rw [cell_of_row _ _ _ _ _ _ HF12.out]; rfl
  have hc21 : ((w.alloc (.cells #[.int .i64 3, .string i, .string f, .string g, .string y, .int .i64 a, .int .i64 d, .string t] 63 (0, 0))).alloc (.cells #[.string i] 9 (0, 0))).cell? ⟨w.heap.size, 6, none⟩ = some (.int .i64 d) := by rw [cell_of_row _ _ _ _ _ _ HF12.out]; rfl
  have hc22 : ((w.alloc (.cells #[.int .i64 3, .string i, .string f, .string g, .string y, .int .i64 a, .int .i64 d, .string t] 63 (0, 0))).alloc (.cells #[.string i] 9 (0, 0))).cell? ⟨w.heap.size, 7, none⟩ = some (.string t) := by rw [cell_of_row _ _ _ _ _ _ HF12.out]; rfl
  have HF23 := Lib.hid (blk_alloc HF12.out (.cells #[.string f, .string g] 9 (0, 0)))
  clear HF12
  have HF24 := Lib.hid (blk_alloc HF13.out (.cells #[.string f, .string g] 9 (0, 0)))
  clear HF13
  have HF25 : Hid ((((w.alloc (.cells #[.int .i64 3, .string i, .string f, .string g, .string y, .int .i64 a, .int .i64 d, .string t] 63 (0, 0))).alloc (.cells #[.string i] 9 (0, 0))).alloc (.cells #[.string f, .string g] 9 (0, 0))).heap[w.heap.size + 2]? = some (.cells #[.string f, .string g] 9 (0, 0))) := Lib.hid (blk_newN (W := ((w.alloc (.cells #[.int .i64 3, .string i, .string f, .string g, .string y, .int .i64 a, .int .i64 d, .string t] 63 (0, 0))).alloc (.cells #[.string i] 9 (0, 0)))) (o := (.cells #[.string f, .string g] 9 (0, 0))) (by simp))
  have HB26 := Lib.hid (HB14.out.alloc (by have := HB14.out.size; simp at this ⊢ <;> omega) (.cells #[.string f, .string g] 9 (0, 0)))
  clear HB14
  have hc27 : (((w.alloc (.cells #[.int .i64 3, .string i, .string f, .string g, .string y, .int .i64 a, .int .i64 d, .string t] 63 (0, 0))).alloc (.cells #[.string i] 9 (0, 0))).alloc (.cells #[.string f, .string g] 9 (0, 0))).cell? ⟨w.heap.size, 0, none⟩ = some (.int .i64 3) := by rw [cell_of_row _ _ _ _ _ _ HF23.out]; rfl
  have hc28 : (((w.alloc (.cells #[.int .i64 3, .string i, .string f, .string g, .string y, .int .i64 a, .int .i64 d, .string t] 63 (0, 0))).alloc (.cells #[.string i] 9 (0, 0))).alloc (.cells #[.string f, .string g] 9 (0, 0))).cell? ⟨w.heap.size, 1, none⟩ = some (.string i) := by rw [cell_of_row _ _ _ _ _ _ HF23.out]; rfl
  have hc29 : (((w.alloc (.cells #[.int .i64 3, .string i, .string f, .string g, .string y, .int .i64 a, .int .i64 d, .string t] 63 (0, 0))).alloc (.cells #[.string i] 9 (0, 0))).alloc (.cells #[.string f, .string g] 9 (0, 0))).cell? ⟨w.heap.size, 2, none⟩ = some (.string f) := by rw [cell_of_row _ _ _ _ _ _ HF23.out]; rfl
  have hc30 : (((w.alloc (.cells #[.int .i64 3, .string i, .string f, .string g, .string y, .int .i64 a, .int .i64 d, .string t] 63 (0, 0))).alloc (.cells #[.string i] 9 (0, 0))).alloc (.cells #[.string f, .string g] 9 (0, 0))).cell? ⟨w.heap.size, 3, none⟩ = some (.string g) := by rw [cell_of_row _ _ _ _ _ _ HF23.out]; rfl
  have hc31 : (((w.alloc (.cells #[.int .i64 3, .string i, .string f, .string g, .string y, .int .i64 a, .int .i64 d, .string t] 63 (0, 0))).alloc (.cells #[.string i] 9 (0, 0))).alloc (.cells #[.string f, .string g] 9 (0, 0))).cell? ⟨w.heap.size, 4, none⟩ = some (.string y) := by rw [cell_of_row _ _ _ _ _ _ HF23.out]; rfl
  have hc32 : (((w.alloc (.cells #[.int .i64 3, .string i, .string f, .string g, .string y, .int .i64 a, .int .i64 d, .string t] 63 (0, 0))).alloc (.cells #[.string i] 9 (0, 0))).alloc (.cells #[.string f, .string g] 9 (0, 0))).cell? ⟨w.heap.size, 5, none⟩ = some (.int .i64 a) := by rw [cell_of_row _ _ _ _ _ _ HF23.out]; rfl
  have hc33 : (((w.alloc (.cells #[.int .i64 3, .string i, .string f, .string g, .string y, .int .i64 a, .int .i64 d, .string t] 63 (0, 0))).alloc (.cells #[.string i] 9 (0, 0))).alloc (.cells #[.string f, .string g] 9 (0, 0))).cell? ⟨w.heap.size, 6, none⟩ = some (.int .i64 d) := by rw [cell_of_row _ _ _ _ _ _ HF23.out]; rfl
  have hc34 : (((w.alloc (.cells #[.int .i64 3, .string i, .string f, .string g, .string y, .int .i64 a, .int .i64 d, .string t] 63 (0, 0))).alloc (.cells #[.string i] 9 (0, 0))).alloc (.cells #[.string f, .string g] 9 (0, 0))).cell? ⟨w.heap.size, 7, none⟩ = some (.string t) := by rw [cell_of_row _ _ _ _ _ _ HF23.out]; rfl
  go_wp2_with (at_builtin; refine wpList_appXs rfl (.tmp 19) (.tmp 24) 29 9 _ 16 rfl Tryz.underlying29 info_stA rfl (by omega) (by omega) stC_len stC_one w.heap.size w HB26.out (by simp <;> omega) _ [i] rfl (ow_blk (f := stC) (s := 1) [i] HF24.out (by omega) rfl rfl (by unfold maxLen; simp)) (some ⟨w.heap.size + 2, 0, none⟩) 2 2 [f, g] rfl (rd_blk (f := stC) (s := 1) (fun _ => rfl) [f, g] HF25.out rfl) (by simp) ?_)
  intro v2 w2 HO2 HB2 HZ2 HG2
  clear hc4 hc5 hc6 hc7 hc8 hc9 hc10 hc11 hc15 hc16 hc17 hc18 hc19 hc20 hc21 hc22 hc27 hc28 hc29 hc30 hc31 hc32 hc33 hc34
  obtain ⟨A3, c3, hv3, hrd, _, _⟩ := HO2.out.rd stC_len
  obtain ⟨b3, o3, hA3, _, _⟩ := hrd.2 (by simp)
  have hv3 : v2 = .slice A3 3 c3 := hv3
  subst hv3 hA3
  have HR3 := Lib.hid hrd
  clear hrd
  go_wp2_with fail
  obtain ⟨L, hL⟩ : ∃ L : List ByteArray, L = [i, f, g] := ⟨_, rfl⟩
  have HRD := Lib.hid (show RdX stC 1 w2 (some ⟨b3, o3, none⟩) 3 L by rw [hL]; exact HR3.out)
  have HSZ : Hid (∀ s ∈ L, s.size ≤ maxLen) := Lib.hid (by rw [hL]; intro s hs; simp at hs; rcases hs with rfl | rfl | rfl <;> assumption)
  have HLN := Lib.hid (show L.length = 3 by rw [hL]; rfl)
  have HEV := Lib.hid (show (if L.all nm = true then (0 : Int) else 2) = rightE (rightB 3 i f g y a d t) by rw [hL]; unfold rightE rightB; simp)
  clear hL
  go_loop [53] (fun j => ∃ q : Nat, j = .int .i64 (q : Int) ∧ q ≤ 3 ∧ Hid ((L.take q).all nm = true)) (fun j => 3 - (intOf j).toNat)
  case atStart => exact ⟨0, rfl, Nat.zero_le _, Lib.hid rfl⟩
  case round =>
    obtain ⟨q, rfl, hq, HI⟩ := hrel
    by_cases hlt : q < 3
    · have hd1 : decide ((q : Int) < 3) = true := decide_eq_true (by omega)
      have hl : q < L.length := by rw [HLN.out]; exact hlt
      have HX := Lib.hid (List.getElem?_eq_getElem hl)
      have hsz := HSZ.out _ (List.getElem_mem hl)
      have HAT := Lib.hid (List.take_succ_eq_append_getElem hl)
      have HMEM := Lib.hid (List.getElem_mem hl)
      obtain ⟨s, hs⟩ : ∃ s, s = L[q] := ⟨_, rfl⟩
      rw [← hs] at HX hsz HAT HMEM
      clear hs
      have hc : w2.cell? ⟨b3, o3 + q, none⟩ = some (.string s) := by have h := HRD.out.cellAt HX.out (by omega) 0 _ rfl; simpa using h
      have hi0 : (0 : Int) ≤ (q : Int) := by omega
      have hi1 : (q : Int) < 3 := by omega
      have HC := Lib.hid (fun W : World => ncheck_any s W hsz)
      cases hn : nm s with
      | false =>
        have HE := Lib.hid (show (2 : Int) = rightE (rightB 3 i f g y a d t) by
          rw [← HEV.out, if_neg]
          intro h
          rw [List.all_eq_true.1 h s HMEM.out] at hn
          cases hn)
        rw [nck_no s hn] at HC
        clear hn
        go_wp2_with fail
        refine (HC.out _).mono ?_
        rintro e w' ⟨rfl, rfl⟩
        go_wp2_with fail
        go_ret
        exact ⟨retI HE.out, HB2.out⟩
      | true =>
        have HJ := Lib.hid (show (L.take (q + 1)).all nm = true by rw [HAT.out, List.all_append, HI.out]; simp [hn])
        rw [nck_yes s hn] at HC
        clear hn
        go_wp2_with fail
        refine (HC.out _).mono ?_
        rintro e w' ⟨rfl, rfl⟩
        go_wp2_with fail
        go_round
        case rel => exact ⟨q + 1, by go_num, by omega, HJ⟩
        case measure => simp [intOf] <;> omega
    · have hd1 : decide ((q : Int) < 3) = false := decide_eq_false (by omega)
      have HE := Lib.hid (show (0 : Int) = rightE (rightB 3 i f g y a d t) by rw [← HEV.out, if_pos]; rw [← List.take_of_length_le (l := L) (i := q) (by rw [HLN.out]; omega)]; exact HI.out)
      go_wp2_with fail
      go_ret
      exact ⟨retI HE.out, HB2.out⟩
end Go.Proofs.YtagenkofoacajaaGreat
