/- The contracts of value.Read and Take over this translation: what is read is the plain functions'. Condition: texts of at most a million bytes. -/
import Derived.Test.YtagenkofoacajaaGreatZb
import Derived.Test.YtagenkofoacajaaGreatWa
namespace Go.Proofs.YtagenkofoacajaaGreat
open Go.RowKit Vi Hm

/-- the kind, the number, the text, how far, the error, ahead of the question whether that may be -/
def rvM (S : ByteArray) (q : Nat) (er : Int) : Int × Int × ByteArray × Nat × Int :=
  if (Rd.byte S q er).1 = 1 then (1, (Rd.byte S (Rd.byte S q er).2.1 (Rd.byte S q er).2.2).1, ⟨#[]⟩, (Rd.byte S (Rd.byte S q er).2.1 (Rd.byte S q er).2.2).2.1, (Rd.byte S (Rd.byte S q er).2.1 (Rd.byte S q er).2.2).2.2)
  else if (Rd.byte S q er).1 = 2 then (2, (Rd.int S (Rd.byte S q er).2.1 (Rd.byte S q er).2.2).1, ⟨#[]⟩, (Rd.int S (Rd.byte S q er).2.1 (Rd.byte S q er).2.2).2.1, (Rd.int S (Rd.byte S q er).2.1 (Rd.byte S q er).2.2).2.2)
  else if (Rd.byte S q er).1 = 3 then (3, 0, (Rd.text S (Rd.byte S q er).2.1 (Rd.byte S q er).2.2 64).1, (Rd.text S (Rd.byte S q er).2.1 (Rd.byte S q er).2.2 64).2.1, (Rd.text S (Rd.byte S q er).2.1 (Rd.byte S q er).2.2 64).2.2)
  else ((Rd.byte S q er).1, 0, ⟨#[]⟩, (Rd.byte S q er).2.1, (Rd.byte S q er).2.2)
theorem rvM_is {S : ByteArray} {q : Nat} {er k : Int} {q1 : Nat} {e1 : Int} (h : Rd.byte S q er = (k, q1, e1)) : rvM S q er =
    if k = 1 then (1, (Rd.byte S q1 e1).1, ⟨#[]⟩, (Rd.byte S q1 e1).2.1, (Rd.byte S q1 e1).2.2) else if k = 2 then (2, (Rd.int S q1 e1).1, ⟨#[]⟩, (Rd.int S q1 e1).2.1, (Rd.int S q1 e1).2.2)
    else if k = 3 then (3, 0, (Rd.text S q1 e1 64).1, (Rd.text S q1 e1 64).2.1, (Rd.text S q1 e1 64).2.2) else (k, 0, ⟨#[]⟩, q1, e1) := by
  unfold rvM; rw [h]
theorem rvM_le (S : ByteArray) (q : Nat) (er : Int) (hq : q ≤ S.size) : (rvM S q er).2.2.2.1 ≤ S.size := by
  obtain ⟨k, q1, e1, h⟩ : ∃ k q1 e1, Rd.byte S q er = (k, q1, e1) := ⟨_, _, _, rfl⟩
  have h1 := Rd.byte_le S q er hq
  rw [h] at h1
  rw [rvM_is h]
  split
  · exact Rd.byte_le S q1 e1 h1
  · split
    · exact Rd.int_le S q1 e1 h1
    · split
      · exact Rd.text_le S q1 e1 64 h1
      · exact h1
/-- the error of a Read; the value -/
def rvE (S : ByteArray) (q : Nat) (er : Int) : Int := if vok (rvM S q er).1 (rvM S q er).2.1 (rvM S q er).2.2.1 = true then (rvM S q er).2.2.2.2 else Rd.fail (rvM S q er).2.2.2.2 3
def rvV (S : ByteArray) (q : Nat) (er : Int) : Int × Int × ByteArray := if rvE S q er = 0 then ((rvM S q er).1, (rvM S q er).2.1, (rvM S q er).2.2.1) else (0, 0, ⟨#[]⟩)
def vvv (t : Int × Int × ByteArray) : Array Value := #[.int .i64 t.1, .int .i64 t.2.1, .string t.2.2]
theorem info_val (k n : Int) (t : ByteArray) : (Tryz.prog.info? 61).map (·.size) = some (#[.int .i64 k, .int .i64 n, .string t] : Array Value).size := by kernel_rfl
theorem one_val (k n : Int) (t : ByteArray) : (#[.int .i64 k, .int .i64 n, .string t] : Array Value).all (·.oneCell') = true := by simp [Value.oneCell']
theorem rv_good {S : ByteArray} {q : Nat} {er k n : Int} {t : ByteArray} {q2 : Nat} (h : rvM S q er = (k, n, t, q2, 0)) (hv : vok k n t = true) : rvE S q er = 0 ∧ rvV S q er = (k, n, t) := by
  have he : rvE S q er = 0 := by unfold rvE; rw [h]; dsimp only; rw [if_pos hv]
  refine ⟨he, ?_⟩
  unfold rvV; rw [if_pos he, h]
theorem rv_err {S : ByteArray} {q : Nat} {er k n : Int} {t : ByteArray} {q2 : Nat} {e2 : Int} (h : rvM S q er = (k, n, t, q2, e2)) (hv : vok k n t = true) (he2 : e2 ≠ 0) : rvE S q er = e2 ∧ rvV S q er = (0, 0, ⟨#[]⟩) := by
  have he : rvE S q er = e2 := by unfold rvE; rw [h]; dsimp only; rw [if_pos hv]
  refine ⟨he, ?_⟩
  unfold rvV; rw [if_neg (by rw [he]; exact he2)]
theorem fail_ne (e : Int) : Rd.fail e 3 ≠ 0 := by
  unfold Rd.fail
  split
  · assumption
  · decide
theorem rv_bad {S : ByteArray} {q : Nat} {er k n : Int} {t : ByteArray} {q2 : Nat} {e2 : Int} (h : rvM S q er = (k, n, t, q2, e2)) (hv : vok k n t = false) : rvE S q er = Rd.fail e2 3 ∧ rvV S q er = (0, 0, ⟨#[]⟩) := by
  have he : rvE S q er = Rd.fail e2 3 := by unfold rvE; rw [h]; dsimp only; rw [if_neg (by rw [hv]; simp)]
  refine ⟨he, ?_⟩
  unfold rvV; rw [if_neg (by rw [he]; exact fail_ne _)]
theorem errV_yes {k n : Int} {t : ByteArray} (h : vok k n t = true) : errV k n t = 0 := by unfold errV; rw [if_pos h]
theorem errV_no {k n : Int} {t : ByteArray} (h : vok k n t = false) : errV k n t = 2 := by unfold errV; rw [if_neg (by rw [h]; simp)]
set_option maxHeartbeats 8000000 in
set_option maxRecDepth 100000 in
theorem vread_any (w : World) (B : Nat) (S : ByteArray) (q : Nat) (er : Int) (hS : S.size ≤ 1000000) (hq : q ≤ S.size) (h : Sc w B true S q er) :
    Calls Tryz.prog 122 #[.pointer (some ⟨B, 0, none⟩)] w fun e w' => e = .returned (.agg (vvv (rvV S q er))) ∧ Sc w' B true S (rvM S q er).2.2.2.1 (rvE S q er) ∧ But B w w' := by
  have hBlt := h.lt
  obtain ⟨k, q1, e1, h1⟩ : ∃ k q1 e1, Rd.byte S q er = (k, q1, e1) := ⟨_, _, _, rfl⟩
  have hM := rvM_is h1
  have H1 := Lib.hid (fun (W : World) (g : Sc W B true S q er) => byteU W B S q er hS hq g)
  have l1 := Rd.byte_le S q er hq
  have bd := Rd.byte_bd S q er
  rw [h1] at H1 l1 bd
  dsimp only at H1 l1 bd
  obtain ⟨bd0, bd1⟩ := bd
  clear h1
  by_cases k1 : k = 1
  · subst k1
    rw [if_pos rfl] at hM
    obtain ⟨n, q2, e2, h2⟩ : ∃ a b c, Rd.byte S q1 e1 = (a, b, c) := ⟨_, _, _, rfl⟩
    rw [h2] at hM
    dsimp only at hM
    have H2 := Lib.hid (fun (W : World) (g : Sc W B true S q1 e1) => byteU W B S q1 e1 hS l1 g)
    have lq := Rd.byte_le S q1 e1 l1
    rw [h2] at H2 lq
    dsimp only at H2 lq
    clear h2
    cases hv : vok 1 n ⟨#[]⟩ with
    | false =>
      obtain ⟨r1, r2⟩ := rv_bad hM hv
      rw [r2, r1, hM]
      dsimp only [vvv]
      have HCK := Lib.hid (fun W : World => vcheck_any 1 n ⟨#[]⟩ W)
      rw [errV_no hv] at HCK
      have HF := Lib.hid (fun (W : World) (h : Sc W B true S q2 e2) => failU W B S q2 e2 3 (by omega) lq h)
      have hf := fail_ne e2
      generalize Rd.fail e2 3 = f at HF hf ⊢
      have hn : (f != 0) = true := by simpa using hf
      have hn2 : (f == 0) = false := by simpa using hf
      clear hM hv r1 r2 hf lq
      have HK1 := Lib.hid (But.refl B w)
      have HS2 := Lib.hid h
      clear h
      go_enter Tryz.func122, Tryz.ntmps122
      go_wp2_with fail
      have HF3 := Lib.hid (blk_new w (.cells #[.int .i64 0, .int .i64 0, .string ⟨#[]⟩] 61 (0, 0)))
      have HK4 := Lib.hid (HK1.out.alloc (.cells #[.int .i64 0, .int .i64 0, .string ⟨#[]⟩] 61 (0, 0)))
      clear HK1
      have HS5 := Lib.hid (HS2.out.alloc (.cells #[.int .i64 0, .int .i64 0, .string ⟨#[]⟩] 61 (0, 0)))
      clear HS2
      refine (H1.out (w.alloc (.cells #[.int .i64 0, .int .i64 0, .string ⟨#[]⟩] 61 (0, 0))) HS5.out).mono ?_
      rintro e w1 ⟨rfl, hs, hk⟩
      have HF6 := Lib.hid (blk_but HF3.out hk (by omega))
      have HK7 := Lib.hid (HK4.out.trans hk)
      have HS8 := Lib.hid (hs)
      clear hs hk HK4 HS5 HF3
      have hk9 := HK7.out.size
      have hk10 : w.heap.size < w1.heap.size := lt_of_block HF6.out
      have HF11 := Lib.hid (blk_alloc HF6.out (.cells #[.int .i64 1, .int .i64 0, .string ⟨#[]⟩] 61 (0, 0)))
      have HF12 := Lib.hid (blk_new w1 (.cells #[.int .i64 1, .int .i64 0, .string ⟨#[]⟩] 61 (0, 0)))
      have HK13 := Lib.hid (HK7.out.alloc (.cells #[.int .i64 1, .int .i64 0, .string ⟨#[]⟩] 61 (0, 0)))
      clear HK7
      have HS14 := Lib.hid (HS8.out.alloc (.cells #[.int .i64 1, .int .i64 0, .string ⟨#[]⟩] 61 (0, 0)))
      clear HS8
      go_wp2_with fail
      refine (H2.out (w1.alloc (.cells #[.int .i64 1, .int .i64 0, .string ⟨#[]⟩] 61 (0, 0))) HS14.out).mono ?_
      rintro e w2 ⟨rfl, hs, hk⟩
      have HF15 := Lib.hid (blk_but HF11.out hk (by omega))
      have HF16 := Lib.hid (blk_but HF12.out hk (by omega))
      have HK17 := Lib.hid (HK13.out.trans hk)
      have HS18 := Lib.hid (hs)
      clear hs hk HK13 HS14 HF11 HF6 HF12
      have hk19 := HK17.out.size
      have hc20 : w2.cell? ⟨w1.heap.size, 0, none⟩ = some (.int .i64 1) := by rw [cell_of_row _ _ _ _ _ _ HF16.out]; rfl
      have hc21 : w2.cell? ⟨w1.heap.size, 1, none⟩ = some (.int .i64 0) := by rw [cell_of_row _ _ _ _ _ _ HF16.out]; rfl
      have hc22 : w2.cell? ⟨w1.heap.size, 2, none⟩ = some (.string ⟨#[]⟩) := by rw [cell_of_row _ _ _ _ _ _ HF16.out]; rfl
      have hz23 : w2.frozen? ⟨w1.heap.size, 1, none⟩ = false := frozen_of_row _ _ _ _ _ HF16.out
      have HF24 := Lib.hid (show (w2.setCell ⟨w1.heap.size, 1, none⟩ (.int .i64 n)).heap[w.heap.size]? = some (.cells #[.int .i64 0, .int .i64 0, .string ⟨#[]⟩] 61 (0, 0)) by rw [Below.heap_setCell _ _ _ _ (by show w.heap.size ≠ w1.heap.size; omega)]; exact HF15.out)
      have HF25 := Lib.hid (show (w2.setCell ⟨w1.heap.size, 1, none⟩ (.int .i64 n)).heap[w1.heap.size]? = some (.cells #[.int .i64 1, .int .i64 n, .string ⟨#[]⟩] 61 (0, 0)) by have h := heap_setCell_at (i := 1) (u := .int .i64 n) HF16.out; exact h)
      have HK26 := Lib.hid (HK17.out.setNew (b := w1.heap.size) (by omega) 1 (.int .i64 n))
      have HS27 := Lib.hid (HS18.out.kept (show (w2.setCell ⟨w1.heap.size, 1, none⟩ (.int .i64 n)).heap[B]? = w2.heap[B]? from Below.heap_setCell _ _ _ _ (by show B ≠ w1.heap.size; omega)))
      go_wp2_with fail
      refine (HCK.out (w2.setCell ⟨w1.heap.size, 1, none⟩ (.int .i64 n))).mono ?_
      rintro e w3 ⟨rfl, hb⟩
      clear hc20 hc21 hc22 hz23
      have HF28 := Lib.hid (blk_below HF24.out hb)
      have HF29 := Lib.hid (blk_below HF25.out hb)
      have HK30 := Lib.hid (HK26.out.trans (But.of_below hb))
      have HS31 := Lib.hid (HS27.out.kept (hb.block B HS27.out.lt))
      clear hb HK26 HS27 HF24 HF25
      have hk32 := HK30.out.size
      go_wp2_with fail
      refine (HF.out w3 HS31.out).mono ?_
      rintro e w4 ⟨rfl, hs, hk⟩
      have HF33 := Lib.hid (blk_but HF28.out hk (by omega))
      have HF34 := Lib.hid (blk_but HF29.out hk (by omega))
      have HK35 := Lib.hid (HK30.out.trans hk)
      have HS36 := Lib.hid (hs)
      clear hs hk HK30 HS31 HF28 HF29
      have hk37 := HK35.out.size
      go_wp2_with fail
      refine (errZ _ B S _ _ HS36.out).mono ?_
      rintro e w' ⟨rfl, rfl⟩
      go_wp2_with (first
        | refine wpList_store_rowY rfl 61 (.tmp 2) (.tmp 32) rfl (w.heap.size) #[.int .i64 0, .int .i64 0, .string ⟨#[]⟩] rfl rfl 61 _ HF33.out (info_val _ _ _) rfl (one_val _ _ _) w.heap.size w4 (Below.refl _ _) (by omega) ?_)
      intro W5 hbk hoth hbel _
      have HF38 := Lib.hid hbk.out
      have HF39 := Lib.hid (blk_oth HF34.out hoth.out (by omega))
      have HK40 := Lib.hid (but_row HK35.out hbel.out)
      have HS41 := Lib.hid (HS36.out.kept (hoth.out B (by omega)))
      clear hbk hoth hbel HK35 HS36 HF33 HF34
      go_wp2_with fail
      refine bodyPost_ret (results_cY rfl _ _ (w.heap.size) #[.int .i64 0, .int .i64 0, .string ⟨#[]⟩] rfl (run_loadVar_row _ (w.heap.size) 61 61 _ (0, 0) _ HF38.out Tryz.underlying61 rfl (info_val _ _ _))) rfl ?_
      exact ⟨rfl, HS41.out, HK40.out⟩
    | true =>
      by_cases he : e2 = 0
      · obtain ⟨r1, r2⟩ := rv_good (by rw [hM, he]) hv
        rw [r2, r1, hM]
        dsimp only [vvv]
        have HCK := Lib.hid (fun W : World => vcheck_any 1 n ⟨#[]⟩ W)
        rw [errV_yes hv] at HCK
        subst he
        clear hM hv r1 r2 lq
        have HK1 := Lib.hid (But.refl B w)
        have HS2 := Lib.hid h
        clear h
        go_enter Tryz.func122, Tryz.ntmps122
        go_wp2_with fail
        have HF3 := Lib.hid (blk_new w (.cells #[.int .i64 0, .int .i64 0, .string ⟨#[]⟩] 61 (0, 0)))
        have HK4 := Lib.hid (HK1.out.alloc (.cells #[.int .i64 0, .int .i64 0, .string ⟨#[]⟩] 61 (0, 0)))
        clear HK1
        have HS5 := Lib.hid (HS2.out.alloc (.cells #[.int .i64 0, .int .i64 0, .string ⟨#[]⟩] 61 (0, 0)))
        clear HS2
        refine (H1.out (w.alloc (.cells #[.int .i64 0, .int .i64 0, .string ⟨#[]⟩] 61 (0, 0))) HS5.out).mono ?_
        rintro e w1 ⟨rfl, hs, hk⟩
        have HF6 := Lib.hid (blk_but HF3.out hk (by omega))
        have HK7 := Lib.hid (HK4.out.trans hk)
        have HS8 := Lib.hid (hs)
        clear hs hk HK4 HS5 HF3
        have hk9 := HK7.out.size
        have hk10 : w.heap.size < w1.heap.size := lt_of_block HF6.out
        have HF11 := Lib.hid (blk_alloc HF6.out (.cells #[.int .i64 1, .int .i64 0, .string ⟨#[]⟩] 61 (0, 0)))
        have HF12 := Lib.hid (blk_new w1 (.cells #[.int .i64 1, .int .i64 0, .string ⟨#[]⟩] 61 (0, 0)))
        have HK13 := Lib.hid (HK7.out.alloc (.cells #[.int .i64 1, .int .i64 0, .string ⟨#[]⟩] 61 (0, 0)))
        clear HK7
        have HS14 := Lib.hid (HS8.out.alloc (.cells #[.int .i64 1, .int .i64 0, .string ⟨#[]⟩] 61 (0, 0)))
        clear HS8
        go_wp2_with fail
        refine (H2.out (w1.alloc (.cells #[.int .i64 1, .int .i64 0, .string ⟨#[]⟩] 61 (0, 0))) HS14.out).mono ?_
        rintro e w2 ⟨rfl, hs, hk⟩
        have HF15 := Lib.hid (blk_but HF11.out hk (by omega))
        have HF16 := Lib.hid (blk_but HF12.out hk (by omega))
        have HK17 := Lib.hid (HK13.out.trans hk)
        have HS18 := Lib.hid (hs)
        clear hs hk HK13 HS14 HF11 HF6 HF12
        have hk19 := HK17.out.size
        have hc20 : w2.cell? ⟨w1.heap.size, 0, none⟩ = some (.int .i64 1) := by rw [cell_of_row _ _ _ _ _ _ HF16.out]; rfl
        have hc21 : w2.cell? ⟨w1.heap.size, 1, none⟩ = some (.int .i64 0) := by rw [cell_of_row _ _ _ _ _ _ HF16.out]; rfl
        have hc22 : w2.cell? ⟨w1.heap.size, 2, none⟩ = some (.string ⟨#[]⟩) := by rw [cell_of_row _ _ _ _ _ _ HF16.out]; rfl
        have hz23 : w2.frozen? ⟨w1.heap.size, 1, none⟩ = false := frozen_of_row _ _ _ _ _ HF16.out
        have HF24 := Lib.hid (show (w2.setCell ⟨w1.heap.size, 1, none⟩ (.int .i64 n)).heap[w.heap.size]? = some (.cells #[.int .i64 0, .int .i64 0, .string ⟨#[]⟩] 61 (0, 0)) by rw [Below.heap_setCell _ _ _ _ (by show w.heap.size ≠ w1.heap.size; omega)]; exact HF15.out)
        have HF25 := Lib.hid (show (w2.setCell ⟨w1.heap.size, 1, none⟩ (.int .i64 n)).heap[w1.heap.size]? = some (.cells #[.int .i64 1, .int .i64 n, .string ⟨#[]⟩] 61 (0, 0)) by have h := heap_setCell_at (i := 1) (u := .int .i64 n) HF16.out; exact h)
        have HK26 := Lib.hid (HK17.out.setNew (b := w1.heap.size) (by omega) 1 (.int .i64 n))
        have HS27 := Lib.hid (HS18.out.kept (show (w2.setCell ⟨w1.heap.size, 1, none⟩ (.int .i64 n)).heap[B]? = w2.heap[B]? from Below.heap_setCell _ _ _ _ (by show B ≠ w1.heap.size; omega)))
        go_wp2_with fail
        refine (HCK.out (w2.setCell ⟨w1.heap.size, 1, none⟩ (.int .i64 n))).mono ?_
        rintro e w3 ⟨rfl, hb⟩
        clear hc20 hc21 hc22 hz23
        have HF28 := Lib.hid (blk_below HF24.out hb)
        have HF29 := Lib.hid (blk_below HF25.out hb)
        have HK30 := Lib.hid (HK26.out.trans (But.of_below hb))
        have HS31 := Lib.hid (HS27.out.kept (hb.block B HS27.out.lt))
        clear hb HK26 HS27 HF24 HF25
        have hk32 := HK30.out.size
        go_wp2_with fail
        refine (errZ _ B S _ _ HS31.out).mono ?_
        rintro e w' ⟨rfl, rfl⟩
        go_wp2_with (first
          | refine wpList_store_rowY rfl 61 (.tmp 2) (.tmp 33) rfl (w.heap.size) #[.int .i64 1, .int .i64 n, .string ⟨#[]⟩] rfl rfl 61 _ HF28.out (info_val _ _ _) rfl (one_val _ _ _) w.heap.size w3 (Below.refl _ _) (by omega) ?_
          | refine wpList_load_row rfl 61 (.tmp 3) rfl (w1.heap.size) rfl 61 #[.int .i64 1, .int .i64 n, .string ⟨#[]⟩] (0, 0) _ HF29.out Tryz.underlying61 rfl (info_val _ _ _) ?_)
        intro W4 hbk hoth hbel _
        have HF33 := Lib.hid hbk.out
        have HF34 := Lib.hid (blk_oth HF29.out hoth.out (by omega))
        have HK35 := Lib.hid (but_row HK30.out hbel.out)
        have HS36 := Lib.hid (HS31.out.kept (hoth.out B (by omega)))
        clear hbk hoth hbel HK30 HS31 HF28 HF29
        go_wp2_with fail
        refine bodyPost_ret (results_cY rfl _ _ (w.heap.size) #[.int .i64 1, .int .i64 n, .string ⟨#[]⟩] rfl (run_loadVar_row _ (w.heap.size) 61 61 _ (0, 0) _ HF33.out Tryz.underlying61 rfl (info_val _ _ _))) rfl ?_
        exact ⟨rfl, HS36.out, HK35.out⟩
      · obtain ⟨r1, r2⟩ := rv_err hM hv he
        rw [r2, r1, hM]
        dsimp only [vvv]
        have HCK := Lib.hid (fun W : World => vcheck_any 1 n ⟨#[]⟩ W)
        rw [errV_yes hv] at HCK
        have hn : (e2 != 0) = true := by simpa using he
        have hn2 : (e2 == 0) = false := by simpa using he
        clear hM hv r1 r2 he lq
        have HK1 := Lib.hid (But.refl B w)
        have HS2 := Lib.hid h
        clear h
        go_enter Tryz.func122, Tryz.ntmps122
        go_wp2_with fail
        have HF3 := Lib.hid (blk_new w (.cells #[.int .i64 0, .int .i64 0, .string ⟨#[]⟩] 61 (0, 0)))
        have HK4 := Lib.hid (HK1.out.alloc (.cells #[.int .i64 0, .int .i64 0, .string ⟨#[]⟩] 61 (0, 0)))
        clear HK1
        have HS5 := Lib.hid (HS2.out.alloc (.cells #[.int .i64 0, .int .i64 0, .string ⟨#[]⟩] 61 (0, 0)))
        clear HS2
        refine (H1.out (w.alloc (.cells #[.int .i64 0, .int .i64 0, .string ⟨#[]⟩] 61 (0, 0))) HS5.out).mono ?_
        rintro e w1 ⟨rfl, hs, hk⟩
        have HF6 := Lib.hid (blk_but HF3.out hk (by omega))
        have HK7 := Lib.hid (HK4.out.trans hk)
        have HS8 := Lib.hid (hs)
        clear hs hk HK4 HS5 HF3
        have hk9 := HK7.out.size
        have hk10 : w.heap.size < w1.heap.size := lt_of_block HF6.out
        have HF11 := Lib.hid (blk_alloc HF6.out (.cells #[.int .i64 1, .int .i64 0, .string ⟨#[]⟩] 61 (0, 0)))
        have HF12 := Lib.hid (blk_new w1 (.cells #[.int .i64 1, .int .i64 0, .string ⟨#[]⟩] 61 (0, 0)))
        have HK13 := Lib.hid (HK7.out.alloc (.cells #[.int .i64 1, .int .i64 0, .string ⟨#[]⟩] 61 (0, 0)))
        clear HK7
        have HS14 := Lib.hid (HS8.out.alloc (.cells #[.int .i64 1, .int .i64 0, .string ⟨#[]⟩] 61 (0, 0)))
        clear HS8
        go_wp2_with fail
        refine (H2.out (w1.alloc (.cells #[.int .i64 1, .int .i64 0, .string ⟨#[]⟩] 61 (0, 0))) HS14.out).mono ?_
        rintro e w2 ⟨rfl, hs, hk⟩
        have HF15 := Lib.hid (blk_but HF11.out hk (by omega))
        have HF16 := Lib.hid (blk_but HF12.out hk (by omega))
        have HK17 := Lib.hid (HK13.out.trans hk)
        have HS18 := Lib.hid (hs)
        clear hs hk HK13 HS14 HF11 HF6 HF12
        have hk19 := HK17.out.size
        have hc20 : w2.cell? ⟨w1.heap.size, 0, none⟩ = some (.int .i64 1) := by rw [cell_of_row _ _ _ _ _ _ HF16.out]; rfl
        have hc21 : w2.cell? ⟨w1.heap.size, 1, none⟩ = some (.int .i64 0) := by rw [cell_of_row _ _ _ _ _ _ HF16.out]; rfl
        have hc22 : w2.cell? ⟨w1.heap.size, 2, none⟩ = some (.string ⟨#[]⟩) := by rw [cell_of_row _ _ _ _ _ _ HF16.out]; rfl
        have hz23 : w2.frozen? ⟨w1.heap.size, 1, none⟩ = false := frozen_of_row _ _ _ _ _ HF16.out
        have HF24 := Lib.hid (show (w2.setCell ⟨w1.heap.size, 1, none⟩ (.int .i64 n)).heap[w.heap.size]? = some (.cells #[.int .i64 0, .int .i64 0, .string ⟨#[]⟩] 61 (0, 0)) by rw [Below.heap_setCell _ _ _ _ (by show w.heap.size ≠ w1.heap.size; omega)]; exact HF15.out)
        have HF25 := Lib.hid (show (w2.setCell ⟨w1.heap.size, 1, none⟩ (.int .i64 n)).heap[w1.heap.size]? = some (.cells #[.int .i64 1, .int .i64 n, .string ⟨#[]⟩] 61 (0, 0)) by have h := heap_setCell_at (i := 1) (u := .int .i64 n) HF16.out; exact h)
        have HK26 := Lib.hid (HK17.out.setNew (b := w1.heap.size) (by omega) 1 (.int .i64 n))
        have HS27 := Lib.hid (HS18.out.kept (show (w2.setCell ⟨w1.heap.size, 1, none⟩ (.int .i64 n)).heap[B]? = w2.heap[B]? from Below.heap_setCell _ _ _ _ (by show B ≠ w1.heap.size; omega)))
        go_wp2_with fail
        refine (HCK.out (w2.setCell ⟨w1.heap.size, 1, none⟩ (.int .i64 n))).mono ?_
        rintro e w3 ⟨rfl, hb⟩
        clear hc20 hc21 hc22 hz23
        have HF28 := Lib.hid (blk_below HF24.out hb)
        have HF29 := Lib.hid (blk_below HF25.out hb)
        have HK30 := Lib.hid (HK26.out.trans (But.of_below hb))
        have HS31 := Lib.hid (HS27.out.kept (hb.block B HS27.out.lt))
        clear hb HK26 HS27 HF24 HF25
        have hk32 := HK30.out.size
        go_wp2_with fail
        refine (errZ _ B S _ _ HS31.out).mono ?_
        rintro e w' ⟨rfl, rfl⟩
        go_wp2_with (first
          | refine wpList_store_rowY rfl 61 (.tmp 2) (.tmp 32) rfl (w.heap.size) #[.int .i64 0, .int .i64 0, .string ⟨#[]⟩] rfl rfl 61 _ HF28.out (info_val _ _ _) rfl (one_val _ _ _) w.heap.size w3 (Below.refl _ _) (by omega) ?_)
        intro W4 hbk hoth hbel _
        have HF33 := Lib.hid hbk.out
        have HF34 := Lib.hid (blk_oth HF29.out hoth.out (by omega))
        have HK35 := Lib.hid (but_row HK30.out hbel.out)
        have HS36 := Lib.hid (HS31.out.kept (hoth.out B (by omega)))
        clear hbk hoth hbel HK30 HS31 HF28 HF29
        go_wp2_with fail
        refine bodyPost_ret (results_cY rfl _ _ (w.heap.size) #[.int .i64 0, .int .i64 0, .string ⟨#[]⟩] rfl (run_loadVar_row _ (w.heap.size) 61 61 _ (0, 0) _ HF33.out Tryz.underlying61 rfl (info_val _ _ _))) rfl ?_
        exact ⟨rfl, HS36.out, HK35.out⟩
  · rw [if_neg k1] at hM
    have kb1 : (k == 1) = false := by simpa using k1
    by_cases k2 : k = 2
    · subst k2
      rw [if_pos rfl] at hM
      clear k1 kb1
      obtain ⟨n, q2, e2, h2⟩ : ∃ a b c, Rd.int S q1 e1 = (a, b, c) := ⟨_, _, _, rfl⟩
      rw [h2] at hM
      dsimp only at hM
      have H2 := Lib.hid (fun (W : World) (g : Sc W B true S q1 e1) => intU W B S q1 e1 hS l1 g)
      have lq := Rd.int_le S q1 e1 l1
      rw [h2] at H2 lq
      dsimp only at H2 lq
      clear h2
      cases hv : vok 2 n ⟨#[]⟩ with
      | false =>
        obtain ⟨r1, r2⟩ := rv_bad hM hv
        rw [r2, r1, hM]
        dsimp only [vvv]
        have HCK := Lib.hid (fun W : World => vcheck_any 2 n ⟨#[]⟩ W)
        rw [errV_no hv] at HCK
        have HF := Lib.hid (fun (W : World) (h : Sc W B true S q2 e2) => failU W B S q2 e2 3 (by omega) lq h)
        have hf := fail_ne e2
        generalize Rd.fail e2 3 = f at HF hf ⊢
        have hn : (f != 0) = true := by simpa using hf
        have hn2 : (f == 0) = false := by simpa using hf
        clear hM hv r1 r2 hf lq
        have HK1 := Lib.hid (But.refl B w)
        have HS2 := Lib.hid h
        clear h
        go_enter Tryz.func122, Tryz.ntmps122
        go_wp2_with fail
        have HF3 := Lib.hid (blk_new w (.cells #[.int .i64 0, .int .i64 0, .string ⟨#[]⟩] 61 (0, 0)))
        have HK4 := Lib.hid (HK1.out.alloc (.cells #[.int .i64 0, .int .i64 0, .string ⟨#[]⟩] 61 (0, 0)))
        clear HK1
        have HS5 := Lib.hid (HS2.out.alloc (.cells #[.int .i64 0, .int .i64 0, .string ⟨#[]⟩] 61 (0, 0)))
        clear HS2
        refine (H1.out (w.alloc (.cells #[.int .i64 0, .int .i64 0, .string ⟨#[]⟩] 61 (0, 0))) HS5.out).mono ?_
        rintro e w1 ⟨rfl, hs, hk⟩
        have HF6 := Lib.hid (blk_but HF3.out hk (by omega))
        have HK7 := Lib.hid (HK4.out.trans hk)
        have HS8 := Lib.hid (hs)
        clear hs hk HK4 HS5 HF3
        have hk9 := HK7.out.size
        have hk10 : w.heap.size < w1.heap.size := lt_of_block HF6.out
        have HF11 := Lib.hid (blk_alloc HF6.out (.cells #[.int .i64 2, .int .i64 0, .string ⟨#[]⟩] 61 (0, 0)))
        have HF12 := Lib.hid (blk_new w1 (.cells #[.int .i64 2, .int .i64 0, .string ⟨#[]⟩] 61 (0, 0)))
        have HK13 := Lib.hid (HK7.out.alloc (.cells #[.int .i64 2, .int .i64 0, .string ⟨#[]⟩] 61 (0, 0)))
        clear HK7
        have HS14 := Lib.hid (HS8.out.alloc (.cells #[.int .i64 2, .int .i64 0, .string ⟨#[]⟩] 61 (0, 0)))
        clear HS8
        go_wp2_with fail
        refine (H2.out (w1.alloc (.cells #[.int .i64 2, .int .i64 0, .string ⟨#[]⟩] 61 (0, 0))) HS14.out).mono ?_
        rintro e w2 ⟨rfl, hs, hk⟩
        have HF15 := Lib.hid (blk_but HF11.out hk (by omega))
        have HF16 := Lib.hid (blk_but HF12.out hk (by omega))
        have HK17 := Lib.hid (HK13.out.trans hk)
        have HS18 := Lib.hid (hs)
        clear hs hk HK13 HS14 HF11 HF6 HF12
        have hk19 := HK17.out.size
        have hc20 : w2.cell? ⟨w1.heap.size, 0, none⟩ = some (.int .i64 2) := by rw [cell_of_row _ _ _ _ _ _ HF16.out]; rfl
        have hc21 : w2.cell? ⟨w1.heap.size, 1, none⟩ = some (.int .i64 0) := by rw [cell_of_row _ _ _ _ _ _ HF16.out]; rfl
        have hc22 : w2.cell? ⟨w1.heap.size, 2, none⟩ = some (.string ⟨#[]⟩) := by rw [cell_of_row _ _ _ _ _ _ HF16.out]; rfl
        have hz23 : w2.frozen? ⟨w1.heap.size, 1, none⟩ = false := frozen_of_row _ _ _ _ _ HF16.out
        have HF24 := Lib.hid (show (w2.setCell ⟨w1.heap.size, 1, none⟩ (.int .i64 n)).heap[w.heap.size]? = some (.cells #[.int .i64 0, .int .i64 0, .string ⟨#[]⟩] 61 (0, 0)) by rw [Below.heap_setCell _ _ _ _ (by show w.heap.size ≠ w1.heap.size; omega)]; exact HF15.out)
        have HF25 := Lib.hid (show (w2.setCell ⟨w1.heap.size, 1, none⟩ (.int .i64 n)).heap[w1.heap.size]? = some (.cells #[.int .i64 2, .int .i64 n, .string ⟨#[]⟩] 61 (0, 0)) by have h := heap_setCell_at (i := 1) (u := .int .i64 n) HF16.out; exact h)
        have HK26 := Lib.hid (HK17.out.setNew (b := w1.heap.size) (by omega) 1 (.int .i64 n))
        have HS27 := Lib.hid (HS18.out.kept (show (w2.setCell ⟨w1.heap.size, 1, none⟩ (.int .i64 n)).heap[B]? = w2.heap[B]? from Below.heap_setCell _ _ _ _ (by show B ≠ w1.heap.size; omega)))
        go_wp2_with fail
        refine (HCK.out (w2.setCell ⟨w1.heap.size, 1, none⟩ (.int .i64 n))).mono ?_
        rintro e w3 ⟨rfl, hb⟩
        clear hc20 hc21 hc22 hz23
        have HF28 := Lib.hid (blk_below HF24.out hb)
        have HF29 := Lib.hid (blk_below HF25.out hb)
        have HK30 := Lib.hid (HK26.out.trans (But.of_below hb))
        have HS31 := Lib.hid (HS27.out.kept (hb.block B HS27.out.lt))
        clear hb HK26 HS27 HF24 HF25
        have hk32 := HK30.out.size
        go_wp2_with fail
        refine (HF.out w3 HS31.out).mono ?_
        rintro e w4 ⟨rfl, hs, hk⟩
        have HF33 := Lib.hid (blk_but HF28.out hk (by omega))
        have HF34 := Lib.hid (blk_but HF29.out hk (by omega))
        have HK35 := Lib.hid (HK30.out.trans hk)
        have HS36 := Lib.hid (hs)
        clear hs hk HK30 HS31 HF28 HF29
        have hk37 := HK35.out.size
        go_wp2_with fail
        refine (errZ _ B S _ _ HS36.out).mono ?_
        rintro e w' ⟨rfl, rfl⟩
        go_wp2_with (first
          | refine wpList_store_rowY rfl 61 (.tmp 2) (.tmp 32) rfl (w.heap.size) #[.int .i64 0, .int .i64 0, .string ⟨#[]⟩] rfl rfl 61 _ HF33.out (info_val _ _ _) rfl (one_val _ _ _) w.heap.size w4 (Below.refl _ _) (by omega) ?_)
        intro W5 hbk hoth hbel _
        have HF38 := Lib.hid hbk.out
        have HF39 := Lib.hid (blk_oth HF34.out hoth.out (by omega))
        have HK40 := Lib.hid (but_row HK35.out hbel.out)
        have HS41 := Lib.hid (HS36.out.kept (hoth.out B (by omega)))
        clear hbk hoth hbel HK35 HS36 HF33 HF34
        go_wp2_with fail
        refine bodyPost_ret (results_cY rfl _ _ (w.heap.size) #[.int .i64 0, .int .i64 0, .string ⟨#[]⟩] rfl (run_loadVar_row _ (w.heap.size) 61 61 _ (0, 0) _ HF38.out Tryz.underlying61 rfl (info_val _ _ _))) rfl ?_
        exact ⟨rfl, HS41.out, HK40.out⟩
      | true =>
        by_cases he : e2 = 0
        · obtain ⟨r1, r2⟩ := rv_good (by rw [hM, he]) hv
          rw [r2, r1, hM]
          dsimp only [vvv]
          have HCK := Lib.hid (fun W : World => vcheck_any 2 n ⟨#[]⟩ W)
          rw [errV_yes hv] at HCK
          subst he
          clear hM hv r1 r2 lq
          have HK1 := Lib.hid (But.refl B w)
          have HS2 := Lib.hid h
          clear h
          go_enter Tryz.func122, Tryz.ntmps122
          go_wp2_with fail
          have HF3 := Lib.hid (blk_new w (.cells #[.int .i64 0, .int .i64 0, .string ⟨#[]⟩] 61 (0, 0)))
          have HK4 := Lib.hid (HK1.out.alloc (.cells #[.int .i64 0, .int .i64 0, .string ⟨#[]⟩] 61 (0, 0)))
          clear HK1
          have HS5 := Lib.hid (HS2.out.alloc (.cells #[.int .i64 0, .int .i64 0, .string ⟨#[]⟩] 61 (0, 0)))
          clear HS2
          refine (H1.out (w.alloc (.cells #[.int .i64 0, .int .i64 0, .string ⟨#[]⟩] 61 (0, 0))) HS5.out).mono ?_
          rintro e w1 ⟨rfl, hs, hk⟩
          have HF6 := Lib.hid (blk_but HF3.out hk (by omega))
          have HK7 := Lib.hid (HK4.out.trans hk)
          have HS8 := Lib.hid (hs)
          clear hs hk HK4 HS5 HF3
          have hk9 := HK7.out.size
          have hk10 : w.heap.size < w1.heap.size := lt_of_block HF6.out
          have HF11 := Lib.hid (blk_alloc HF6.out (.cells #[.int .i64 2, .int .i64 0, .string ⟨#[]⟩] 61 (0, 0)))
          have HF12 := Lib.hid (blk_new w1 (.cells #[.int .i64 2, .int .i64 0, .string ⟨#[]⟩] 61 (0, 0)))
          have HK13 := Lib.hid (HK7.out.alloc (.cells #[.int .i64 2, .int .i64 0, .string ⟨#[]⟩] 61 (0, 0)))
          clear HK7
          have HS14 := Lib.hid (HS8.out.alloc (.cells #[.int .i64 2, .int .i64 0, .string ⟨#[]⟩] 61 (0, 0)))
          clear HS8
          go_wp2_with fail
          refine (H2.out (w1.alloc (.cells #[.int .i64 2, .int .i64 0, .string ⟨#[]⟩] 61 (0, 0))) HS14.out).mono ?_
          rintro e w2 ⟨rfl, hs, hk⟩
          have HF15 := Lib.hid (blk_but HF11.out hk (by omega))
          have HF16 := Lib.hid (blk_but HF12.out hk (by omega))
          have HK17 := Lib.hid (HK13.out.trans hk)
          have HS18 := Lib.hid (hs)
          clear hs hk HK13 HS14 HF11 HF6 HF12
          have hk19 := HK17.out.size
          have hc20 : w2.cell? ⟨w1.heap.size, 0, none⟩ = some (.int .i64 2) := by rw [cell_of_row _ _ _ _ _ _ HF16.out]; rfl
          have hc21 : w2.cell? ⟨w1.heap.size, 1, none⟩ = some (.int .i64 0) := by rw [cell_of_row _ _ _ _ _ _ HF16.out]; rfl
          have hc22 : w2.cell? ⟨w1.heap.size, 2, none⟩ = some (.string ⟨#[]⟩) := by rw [cell_of_row _ _ _ _ _ _ HF16.out]; rfl
          have hz23 : w2.frozen? ⟨w1.heap.size, 1, none⟩ = false := frozen_of_row _ _ _ _ _ HF16.out
          have HF24 := Lib.hid (show (w2.setCell ⟨w1.heap.size, 1, none⟩ (.int .i64 n)).heap[w.heap.size]? = some (.cells #[.int .i64 0, .int .i64 0, .string ⟨#[]⟩] 61 (0, 0)) by rw [Below.heap_setCell _ _ _ _ (by show w.heap.size ≠ w1.heap.size; omega)]; exact HF15.out)
          have HF25 := Lib.hid (show (w2.setCell ⟨w1.heap.size, 1, none⟩ (.int .i64 n)).heap[w1.heap.size]? = some (.cells #[.int .i64 2, .int .i64 n, .string ⟨#[]⟩] 61 (0, 0)) by have h := heap_setCell_at (i := 1) (u := .int .i64 n) HF16.out; exact h)
          have HK26 := Lib.hid (HK17.out.setNew (b := w1.heap.size) (by omega) 1 (.int .i64 n))
          have HS27 := Lib.hid (HS18.out.kept (show (w2.setCell ⟨w1.heap.size, 1, none⟩ (.int .i64 n)).heap[B]? = w2.heap[B]? from Below.heap_setCell _ _ _ _ (by show B ≠ w1.heap.size; omega)))
          go_wp2_with fail
          refine (HCK.out (w2.setCell ⟨w1.heap.size, 1, none⟩ (.int .i64 n))).mono ?_
          rintro e w3 ⟨rfl, hb⟩
          clear hc20 hc21 hc22 hz23
          have HF28 := Lib.hid (blk_below HF24.out hb)
          have HF29 := Lib.hid (blk_below HF25.out hb)
          have HK30 := Lib.hid (HK26.out.trans (But.of_below hb))
          have HS31 := Lib.hid (HS27.out.kept (hb.block B HS27.out.lt))
          clear hb HK26 HS27 HF24 HF25
          have hk32 := HK30.out.size
          go_wp2_with fail
          refine (errZ _ B S _ _ HS31.out).mono ?_
          rintro e w' ⟨rfl, rfl⟩
          go_wp2_with (first
            | refine wpList_store_rowY rfl 61 (.tmp 2) (.tmp 33) rfl (w.heap.size) #[.int .i64 2, .int .i64 n, .string ⟨#[]⟩] rfl rfl 61 _ HF28.out (info_val _ _ _) rfl (one_val _ _ _) w.heap.size w3 (Below.refl _ _) (by omega) ?_
            | refine wpList_load_row rfl 61 (.tmp 3) rfl (w1.heap.size) rfl 61 #[.int .i64 2, .int .i64 n, .string ⟨#[]⟩] (0, 0) _ HF29.out Tryz.underlying61 rfl (info_val _ _ _) ?_)
          intro W4 hbk hoth hbel _
          have HF33 := Lib.hid hbk.out
          have HF34 := Lib.hid (blk_oth HF29.out hoth.out (by omega))
          have HK35 := Lib.hid (but_row HK30.out hbel.out)
          have HS36 := Lib.hid (HS31.out.kept (hoth.out B (by omega)))
          clear hbk hoth hbel HK30 HS31 HF28 HF29
          go_wp2_with fail
          refine bodyPost_ret (results_cY rfl _ _ (w.heap.size) #[.int .i64 2, .int .i64 n, .string ⟨#[]⟩] rfl (run_loadVar_row _ (w.heap.size) 61 61 _ (0, 0) _ HF33.out Tryz.underlying61 rfl (info_val _ _ _))) rfl ?_
          exact ⟨rfl, HS36.out, HK35.out⟩
        · obtain ⟨r1, r2⟩ := rv_err hM hv he
          rw [r2, r1, hM]
          dsimp only [vvv]
          have HCK := Lib.hid (fun W : World => vcheck_any 2 n ⟨#[]⟩ W)
          rw [errV_yes hv] at HCK
          have hn : (e2 != 0) = true := by simpa using he
          have hn2 : (e2 == 0) = false := by simpa using he
          clear hM hv r1 r2 he lq
          have HK1 := Lib.hid (But.refl B w)
          have HS2 := Lib.hid h
          clear h
          go_enter Tryz.func122, Tryz.ntmps122
          go_wp2_with fail
          have HF3 := Lib.hid (blk_new w (.cells #[.int .i64 0, .int .i64 0, .string ⟨#[]⟩] 61 (0, 0)))
          have HK4 := Lib.hid (HK1.out.alloc (.cells #[.int .i64 0, .int .i64 0, .string ⟨#[]⟩] 61 (0, 0)))
          clear HK1
          have HS5 := Lib.hid (HS2.out.alloc (.cells #[.int .i64 0, .int .i64 0, .string ⟨#[]⟩] 61 (0, 0)))
          clear HS2
          refine (H1.out (w.alloc (.cells #[.int .i64 0, .int .i64 0, .string ⟨#[]⟩] 61 (0, 0))) HS5.out).mono ?_
          rintro e w1 ⟨rfl, hs, hk⟩
          have HF6 := Lib.hid (blk_but HF3.out hk (by omega))
          have HK7 := Lib.hid (HK4.out.trans hk)
          have HS8 := Lib.hid (hs)
          clear hs hk HK4 HS5 HF3
          have hk9 := HK7.out.size
          have hk10 : w.heap.size < w1.heap.size := lt_of_block HF6.out
          have HF11 := Lib.hid (blk_alloc HF6.out (.cells #[.int .i64 2, .int .i64 0, .string ⟨#[]⟩] 61 (0, 0)))
          have HF12 := Lib.hid (blk_new w1 (.cells #[.int .i64 2, .int .i64 0, .string ⟨#[]⟩] 61 (0, 0)))
          have HK13 := Lib.hid (HK7.out.alloc (.cells #[.int .i64 2, .int .i64 0, .string ⟨#[]⟩] 61 (0, 0)))
          clear HK7
          have HS14 := Lib.hid (HS8.out.alloc (.cells #[.int .i64 2, .int .i64 0, .string ⟨#[]⟩] 61 (0, 0)))
          clear HS8
          go_wp2_with fail
          refine (H2.out (w1.alloc (.cells #[.int .i64 2, .int .i64 0, .string ⟨#[]⟩] 61 (0, 0))) HS14.out).mono ?_
          rintro e w2 ⟨rfl, hs, hk⟩
          have HF15 := Lib.hid (blk_but HF11.out hk (by omega))
          have HF16 := Lib.hid (blk_but HF12.out hk (by omega))
          have HK17 := Lib.hid (HK13.out.trans hk)
          have HS18 := Lib.hid (hs)
          clear hs hk HK13 HS14 HF11 HF6 HF12
          have hk19 := HK17.out.size
          have hc20 : w2.cell? ⟨w1.heap.size, 0, none⟩ = some (.int .i64 2) := by rw [cell_of_row _ _ _ _ _ _ HF16.out]; rfl
          have hc21 : w2.cell? ⟨w1.heap.size, 1, none⟩ = some (.int .i64 0) := by rw [cell_of_row _ _ _ _ _ _ HF16.out]; rfl
          have hc22 : w2.cell? ⟨w1.heap.size, 2, none⟩ = some (.string ⟨#[]⟩) := by rw [cell_of_row _ _ _ _ _ _ HF16.out]; rfl
          have hz23 : w2.frozen? ⟨w1.heap.size, 1, none⟩ = false := frozen_of_row _ _ _ _ _ HF16.out
          have HF24 := Lib.hid (show (w2.setCell ⟨w1.heap.size, 1, none⟩ (.int .i64 n)).heap[w.heap.size]? = some (.cells #[.int .i64 0, .int .i64 0, .string ⟨#[]⟩] 61 (0, 0)) by rw [Below.heap_setCell _ _ _ _ (by show w.heap.size ≠ w1.heap.size; omega)]; exact HF15.out)
          have HF25 := Lib.hid (show (w2.setCell ⟨w1.heap.size, 1, none⟩ (.int .i64 n)).heap[w1.heap.size]? = some (.cells #[.int .i64 2, .int .i64 n, .string ⟨#[]⟩] 61 (0, 0)) by have h := heap_setCell_at (i := 1) (u := .int .i64 n) HF16.out; exact h)
          have HK26 := Lib.hid (HK17.out.setNew (b := w1.heap.size) (by omega) 1 (.int .i64 n))
          have HS27 := Lib.hid (HS18.out.kept (show (w2.setCell ⟨w1.heap.size, 1, none⟩ (.int .i64 n)).heap[B]? = w2.heap[B]? from Below.heap_setCell _ _ _ _ (by show B ≠ w1.heap.size; omega)))
          go_wp2_with fail
          refine (HCK.out (w2.setCell ⟨w1.heap.size, 1, none⟩ (.int .i64 n))).mono ?_
          rintro e w3 ⟨rfl, hb⟩
          clear hc20 hc21 hc22 hz23
          have HF28 := Lib.hid (blk_below HF24.out hb)
          have HF29 := Lib.hid (blk_below HF25.out hb)
          have HK30 := Lib.hid (HK26.out.trans (But.of_below hb))
          have HS31 := Lib.hid (HS27.out.kept (hb.block B HS27.out.lt))
          clear hb HK26 HS27 HF24 HF25
          have hk32 := HK30.out.size
          go_wp2_with fail
          refine (errZ _ B S _ _ HS31.out).mono ?_
          rintro e w' ⟨rfl, rfl⟩
          go_wp2_with (first
            | refine wpList_store_rowY rfl 61 (.tmp 2) (.tmp 32) rfl (w.heap.size) #[.int .i64 0, .int .i64 0, .string ⟨#[]⟩] rfl rfl 61 _ HF28.out (info_val _ _ _) rfl (one_val _ _ _) w.heap.size w3 (Below.refl _ _) (by omega) ?_)
          intro W4 hbk hoth hbel _
          have HF33 := Lib.hid hbk.out
          have HF34 := Lib.hid (blk_oth HF29.out hoth.out (by omega))
          have HK35 := Lib.hid (but_row HK30.out hbel.out)
          have HS36 := Lib.hid (HS31.out.kept (hoth.out B (by omega)))
          clear hbk hoth hbel HK30 HS31 HF28 HF29
          go_wp2_with fail
          refine bodyPost_ret (results_cY rfl _ _ (w.heap.size) #[.int .i64 0, .int .i64 0, .string ⟨#[]⟩] rfl (run_loadVar_row _ (w.heap.size) 61 61 _ (0, 0) _ HF33.out Tryz.underlying61 rfl (info_val _ _ _))) rfl ?_
          exact ⟨rfl, HS36.out, HK35.out⟩
    · rw [if_neg k2] at hM
      have kb2 : (k == 2) = false := by simpa using k2
      by_cases k3 : k = 3
      · subst k3
        rw [if_pos rfl] at hM
        clear k1 k2 kb1 kb2
        obtain ⟨t, q2, e2, h2⟩ : ∃ a b c, Rd.text S q1 e1 64 = (a, b, c) := ⟨_, _, _, rfl⟩
        rw [h2] at hM
        dsimp only at hM
        have H2 := Lib.hid (fun (W : World) (g : Sc W B true S q1 e1) => textU W B S q1 e1 64 hS l1 g (by omega))
        have lq := Rd.text_le S q1 e1 64 l1
        rw [h2] at H2 lq
        dsimp only at H2 lq
        clear h2
        cases hv : vok 3 0 t with
        | false =>
          obtain ⟨r1, r2⟩ := rv_bad hM hv
          rw [r2, r1, hM]
          dsimp only [vvv]
          have HCK := Lib.hid (fun W : World => vcheck_any 3 (0 : Int) t W)
          rw [errV_no hv] at HCK
          have HF := Lib.hid (fun (W : World) (h : Sc W B true S q2 e2) => failU W B S q2 e2 3 (by omega) lq h)
          have hf := fail_ne e2
          generalize Rd.fail e2 3 = f at HF hf ⊢
          have hn : (f != 0) = true := by simpa using hf
          have hn2 : (f == 0) = false := by simpa using hf
          clear hM hv r1 r2 hf lq
          have HK1 := Lib.hid (But.refl B w)
          have HS2 := Lib.hid h
          clear h
          go_enter Tryz.func122, Tryz.ntmps122
          go_wp2_with fail
          have HF3 := Lib.hid (blk_new w (.cells #[.int .i64 0, .int .i64 0, .string ⟨#[]⟩] 61 (0, 0)))
          have HK4 := Lib.hid (HK1.out.alloc (.cells #[.int .i64 0, .int .i64 0, .string ⟨#[]⟩] 61 (0, 0)))
          clear HK1
          have HS5 := Lib.hid (HS2.out.alloc (.cells #[.int .i64 0, .int .i64 0, .string ⟨#[]⟩] 61 (0, 0)))
          clear HS2
          refine (H1.out (w.alloc (.cells #[.int .i64 0, .int .i64 0, .string ⟨#[]⟩] 61 (0, 0))) HS5.out).mono ?_
          rintro e w1 ⟨rfl, hs, hk⟩
          have HF6 := Lib.hid (blk_but HF3.out hk (by omega))
          have HK7 := Lib.hid (HK4.out.trans hk)
          have HS8 := Lib.hid (hs)
          clear hs hk HK4 HS5 HF3
          have hk9 := HK7.out.size
          have hk10 : w.heap.size < w1.heap.size := lt_of_block HF6.out
          have HF11 := Lib.hid (blk_alloc HF6.out (.cells #[.int .i64 3, .int .i64 0, .string ⟨#[]⟩] 61 (0, 0)))
          have HF12 := Lib.hid (blk_new w1 (.cells #[.int .i64 3, .int .i64 0, .string ⟨#[]⟩] 61 (0, 0)))
          have HK13 := Lib.hid (HK7.out.alloc (.cells #[.int .i64 3, .int .i64 0, .string ⟨#[]⟩] 61 (0, 0)))
          clear HK7
          have HS14 := Lib.hid (HS8.out.alloc (.cells #[.int .i64 3, .int .i64 0, .string ⟨#[]⟩] 61 (0, 0)))
          clear HS8
          go_wp2_with fail
          refine (H2.out (w1.alloc (.cells #[.int .i64 3, .int .i64 0, .string ⟨#[]⟩] 61 (0, 0))) HS14.out).mono ?_
          rintro e w2 ⟨rfl, hs, hk⟩
          have HF15 := Lib.hid (blk_but HF11.out hk (by omega))
          have HF16 := Lib.hid (blk_but HF12.out hk (by omega))
          have HK17 := Lib.hid (HK13.out.trans hk)
          have HS18 := Lib.hid (hs)
          clear hs hk HK13 HS14 HF11 HF6 HF12
          have hk19 := HK17.out.size
          have hc20 : w2.cell? ⟨w1.heap.size, 0, none⟩ = some (.int .i64 3) := by rw [cell_of_row _ _ _ _ _ _ HF16.out]; rfl
          have hc21 : w2.cell? ⟨w1.heap.size, 1, none⟩ = some (.int .i64 0) := by rw [cell_of_row _ _ _ _ _ _ HF16.out]; rfl
          have hc22 : w2.cell? ⟨w1.heap.size, 2, none⟩ = some (.string ⟨#[]⟩) := by rw [cell_of_row _ _ _ _ _ _ HF16.out]; rfl
          have hz23 : w2.frozen? ⟨w1.heap.size, 2, none⟩ = false := frozen_of_row _ _ _ _ _ HF16.out
          have HF24 := Lib.hid (show (w2.setCell ⟨w1.heap.size, 2, none⟩ (.string t)).heap[w.heap.size]? = some (.cells #[.int .i64 0, .int .i64 0, .string ⟨#[]⟩] 61 (0, 0)) by rw [Below.heap_setCell _ _ _ _ (by show w.heap.size ≠ w1.heap.size; omega)]; exact HF15.out)
          have HF25 := Lib.hid (show (w2.setCell ⟨w1.heap.size, 2, none⟩ (.string t)).heap[w1.heap.size]? = some (.cells #[.int .i64 3, .int .i64 0, .string t] 61 (0, 0)) by have h := heap_setCell_at (i := 2) (u := .string t) HF16.out; exact h)
          have HK26 := Lib.hid (HK17.out.setNew (b := w1.heap.size) (by omega) 2 (.string t))
          have HS27 := Lib.hid (HS18.out.kept (show (w2.setCell ⟨w1.heap.size, 2, none⟩ (.string t)).heap[B]? = w2.heap[B]? from Below.heap_setCell _ _ _ _ (by show B ≠ w1.heap.size; omega)))
          go_wp2_with fail
          refine (HCK.out (w2.setCell ⟨w1.heap.size, 2, none⟩ (.string t))).mono ?_
          rintro e w3 ⟨rfl, hb⟩
          clear hc20 hc21 hc22 hz23
          have HF28 := Lib.hid (blk_below HF24.out hb)
          have HF29 := Lib.hid (blk_below HF25.out hb)
          have HK30 := Lib.hid (HK26.out.trans (But.of_below hb))
          have HS31 := Lib.hid (HS27.out.kept (hb.block B HS27.out.lt))
          clear hb HK26 HS27 HF24 HF25
          have hk32 := HK30.out.size
          go_wp2_with fail
          refine (HF.out w3 HS31.out).mono ?_
          rintro e w4 ⟨rfl, hs, hk⟩
          have HF33 := Lib.hid (blk_but HF28.out hk (by omega))
          have HF34 := Lib.hid (blk_but HF29.out hk (by omega))
          have HK35 := Lib.hid (HK30.out.trans hk)
          have HS36 := Lib.hid (hs)
          clear hs hk HK30 HS31 HF28 HF29
          have hk37 := HK35.out.size
          go_wp2_with fail
          refine (errZ _ B S _ _ HS36.out).mono ?_
          rintro e w' ⟨rfl, rfl⟩
          go_wp2_with (first
            | refine wpList_store_rowY rfl 61 (.tmp 2) (.tmp 32) rfl (w.heap.size) #[.int .i64 0, .int .i64 0, .string ⟨#[]⟩] rfl rfl 61 _ HF33.out (info_val _ _ _) rfl (one_val _ _ _) w.heap.size w4 (Below.refl _ _) (by omega) ?_)
          intro W5 hbk hoth hbel _
          have HF38 := Lib.hid hbk.out
          have HF39 := Lib.hid (blk_oth HF34.out hoth.out (by omega))
          have HK40 := Lib.hid (but_row HK35.out hbel.out)
          have HS41 := Lib.hid (HS36.out.kept (hoth.out B (by omega)))
          clear hbk hoth hbel HK35 HS36 HF33 HF34
          go_wp2_with fail
          refine bodyPost_ret (results_cY rfl _ _ (w.heap.size) #[.int .i64 0, .int .i64 0, .string ⟨#[]⟩] rfl (run_loadVar_row _ (w.heap.size) 61 61 _ (0, 0) _ HF38.out Tryz.underlying61 rfl (info_val _ _ _))) rfl ?_
          exact ⟨rfl, HS41.out, HK40.out⟩
        | true =>
          by_cases he : e2 = 0
          · obtain ⟨r1, r2⟩ := rv_good (by rw [hM, he]) hv
            rw [r2, r1, hM]
            dsimp only [vvv]
            have HCK := Lib.hid (fun W : World => vcheck_any 3 (0 : Int) t W)
            rw [errV_yes hv] at HCK
            subst he
            clear hM hv r1 r2 lq
            have HK1 := Lib.hid (But.refl B w)
            have HS2 := Lib.hid h
            clear h
            go_enter Tryz.func122, Tryz.ntmps122
            go_wp2_with fail
            have HF3 := Lib.hid (blk_new w (.cells #[.int .i64 0, .int .i64 0, .string ⟨#[]⟩] 61 (0, 0)))
            have HK4 := Lib.hid (HK1.out.alloc (.cells #[.int .i64 0, .int .i64 0, .string ⟨#[]⟩] 61 (0, 0)))
            clear HK1
            have HS5 := Lib.hid (HS2.out.alloc (.cells #[.int .i64 0, .int .i64 0, .string ⟨#[]⟩] 61 (0, 0)))
            clear HS2
            refine (H1.out (w.alloc (.cells #[.int .i64 0, .int .i64 0, .string ⟨#[]⟩] 61 (0, 0))) HS5.out).mono ?_
            rintro e w1 ⟨rfl, hs, hk⟩
            have HF6 := Lib.hid (blk_but HF3.out hk (by omega))
            have HK7 := Lib.hid (HK4.out.trans hk)
            have HS8 := Lib.hid (hs)
            clear hs hk HK4 HS5 HF3
            have hk9 := HK7.out.size
            have hk10 : w.heap.size < w1.heap.size := lt_of_block HF6.out
            have HF11 := Lib.hid (blk_alloc HF6.out (.cells #[.int .i64 3, .int .i64 0, .string ⟨#[]⟩] 61 (0, 0)))
            have HF12 := Lib.hid (blk_new w1 (.cells #[.int .i64 3, .int .i64 0, .string ⟨#[]⟩] 61 (0, 0)))
            have HK13 := Lib.hid (HK7.out.alloc (.cells #[.int .i64 3, .int .i64 0, .string ⟨#[]⟩] 61 (0, 0)))
            clear HK7
            have HS14 := Lib.hid (HS8.out.alloc (.cells #[.int .i64 3, .int .i64 0, .string ⟨#[]⟩] 61 (0, 0)))
            clear HS8
            go_wp2_with fail
            refine (H2.out (w1.alloc (.cells #[.int .i64 3, .int .i64 0, .string ⟨#[]⟩] 61 (0, 0))) HS14.out).mono ?_
            rintro e w2 ⟨rfl, hs, hk⟩
            have HF15 := Lib.hid (blk_but HF11.out hk (by omega))
            have HF16 := Lib.hid (blk_but HF12.out hk (by omega))
            have HK17 := Lib.hid (HK13.out.trans hk)
            have HS18 := Lib.hid (hs)
            clear hs hk HK13 HS14 HF11 HF6 HF12
            have hk19 := HK17.out.size
            have hc20 : w2.cell? ⟨w1.heap.size, 0, none⟩ = some (.int .i64 3) := by rw [cell_of_row _ _ _ _ _ _ HF16.out]; rfl
            have hc21 : w2.cell? ⟨w1.heap.size, 1, none⟩ = some (.int .i64 0) := by rw [cell_of_row _ _ _ _ _ _ HF16.out]; rfl
            have hc22 : w2.cell? ⟨w1.heap.size, 2, none⟩ = some (.string ⟨#[]⟩) := by rw [cell_of_row _ _ _ _ _ _ HF16.out]; rfl
            have hz23 : w2.frozen? ⟨w1.heap.size, 2, none⟩ = false := frozen_of_row _ _ _ _ _ HF16.out
            have HF24 := Lib.hid (show (w2.setCell ⟨w1.heap.size, 2, none⟩ (.string t)).heap[w.heap.size]? = some (.cells #[.int .i64 0, .int .i64 0, .string ⟨#[]⟩] 61 (0, 0)) by rw [Below.heap_setCell _ _ _ _ (by show w.heap.size ≠ w1.heap.size; omega)]; exact HF15.out)
            have HF25 := Lib.hid (show (w2.setCell ⟨w1.heap.size, 2, none⟩ (.string t)).heap[w1.heap.size]? = some (.cells #[.int .i64 3, .int .i64 0, .string t] 61 (0, 0)) by have h := heap_setCell_at (i := 2) (u := .string t) HF16.out; exact h)
            have HK26 := Lib.hid (HK17.out.setNew (b := w1.heap.size) (by omega) 2 (.string t))
            have HS27 := Lib.hid (HS18.out.kept (show (w2.setCell ⟨w1.heap.size, 2, none⟩ (.string t)).heap[B]? = w2.heap[B]? from Below.heap_setCell _ _ _ _ (by show B ≠ w1.heap.size; omega)))
            go_wp2_with fail
            refine (HCK.out (w2.setCell ⟨w1.heap.size, 2, none⟩ (.string t))).mono ?_
            rintro e w3 ⟨rfl, hb⟩
            clear hc20 hc21 hc22 hz23
            have HF28 := Lib.hid (blk_below HF24.out hb)
            have HF29 := Lib.hid (blk_below HF25.out hb)
            have HK30 := Lib.hid (HK26.out.trans (But.of_below hb))
            have HS31 := Lib.hid (HS27.out.kept (hb.block B HS27.out.lt))
            clear hb HK26 HS27 HF24 HF25
            have hk32 := HK30.out.size
            go_wp2_with fail
            refine (errZ _ B S _ _ HS31.out).mono ?_
            rintro e w' ⟨rfl, rfl⟩
            go_wp2_with (first
              | refine wpList_store_rowY rfl 61 (.tmp 2) (.tmp 33) rfl (w.heap.size) #[.int .i64 3, .int .i64 0, .string t] rfl rfl 61 _ HF28.out (info_val _ _ _) rfl (one_val _ _ _) w.heap.size w3 (Below.refl _ _) (by omega) ?_
              | refine wpList_load_row rfl 61 (.tmp 3) rfl (w1.heap.size) rfl 61 #[.int .i64 3, .int .i64 0, .string t] (0, 0) _ HF29.out Tryz.underlying61 rfl (info_val _ _ _) ?_)
            intro W4 hbk hoth hbel _
            have HF33 := Lib.hid hbk.out
            have HF34 := Lib.hid (blk_oth HF29.out hoth.out (by omega))
            have HK35 := Lib.hid (but_row HK30.out hbel.out)
            have HS36 := Lib.hid (HS31.out.kept (hoth.out B (by omega)))
            clear hbk hoth hbel HK30 HS31 HF28 HF29
            go_wp2_with fail
            refine bodyPost_ret (results_cY rfl _ _ (w.heap.size) #[.int .i64 3, .int .i64 0, .string t] rfl (run_loadVar_row _ (w.heap.size) 61 61 _ (0, 0) _ HF33.out Tryz.underlying61 rfl (info_val _ _ _))) rfl ?_
            exact ⟨rfl, HS36.out, HK35.out⟩
          · obtain ⟨r1, r2⟩ := rv_err hM hv he
            rw [r2, r1, hM]
            dsimp only [vvv]
            have HCK := Lib.hid (fun W : World => vcheck_any 3 (0 : Int) t W)
            rw [errV_yes hv] at HCK
            have hn : (e2 != 0) = true := by simpa using he
            have hn2 : (e2 == 0) = false := by simpa using he
            clear hM hv r1 r2 he lq
            have HK1 := Lib.hid (But.refl B w)
            have HS2 := Lib.hid h
            clear h
            go_enter Tryz.func122, Tryz.ntmps122
            go_wp2_with fail
            have HF3 := Lib.hid (blk_new w (.cells #[.int .i64 0, .int .i64 0, .string ⟨#[]⟩] 61 (0, 0)))
            have HK4 := Lib.hid (HK1.out.alloc (.cells #[.int .i64 0, .int .i64 0, .string ⟨#[]⟩] 61 (0, 0)))
            clear HK1
            have HS5 := Lib.hid (HS2.out.alloc (.cells #[.int .i64 0, .int .i64 0, .string ⟨#[]⟩] 61 (0, 0)))
            clear HS2
            refine (H1.out (w.alloc (.cells #[.int .i64 0, .int .i64 0, .string ⟨#[]⟩] 61 (0, 0))) HS5.out).mono ?_
            rintro e w1 ⟨rfl, hs, hk⟩
            have HF6 := Lib.hid (blk_but HF3.out hk (by omega))
            have HK7 := Lib.hid (HK4.out.trans hk)
            have HS8 := Lib.hid (hs)
            clear hs hk HK4 HS5 HF3
            have hk9 := HK7.out.size
            have hk10 : w.heap.size < w1.heap.size := lt_of_block HF6.out
            have HF11 := Lib.hid (blk_alloc HF6.out (.cells #[.int .i64 3, .int .i64 0, .string ⟨#[]⟩] 61 (0, 0)))
            have HF12 := Lib.hid (blk_new w1 (.cells #[.int .i64 3, .int .i64 0, .string ⟨#[]⟩] 61 (0, 0)))
            have HK13 := Lib.hid (HK7.out.alloc (.cells #[.int .i64 3, .int .i64 0, .string ⟨#[]⟩] 61 (0, 0)))
            clear HK7
            have HS14 := Lib.hid (HS8.out.alloc (.cells #[.int .i64 3, .int .i64 0, .string ⟨#[]⟩] 61 (0, 0)))
            clear HS8
            go_wp2_with fail
            refine (H2.out (w1.alloc (.cells #[.int .i64 3, .int .i64 0, .string ⟨#[]⟩] 61 (0, 0))) HS14.out).mono ?_
            rintro e w2 ⟨rfl, hs, hk⟩
            have HF15 := Lib.hid (blk_but HF11.out hk (by omega))
            have HF16 := Lib.hid (blk_but HF12.out hk (by omega))
            have HK17 := Lib.hid (HK13.out.trans hk)
            have HS18 := Lib.hid (hs)
            clear hs hk HK13 HS14 HF11 HF6 HF12
            have hk19 := HK17.out.size
            have hc20 : w2.cell? ⟨w1.heap.size, 0, none⟩ = some (.int .i64 3) := by rw [cell_of_row _ _ _ _ _ _ HF16.out]; rfl
            have hc21 : w2.cell? ⟨w1.heap.size, 1, none⟩ = some (.int .i64 0) := by rw [cell_of_row _ _ _ _ _ _ HF16.out]; rfl
            have hc22 : w2.cell? ⟨w1.heap.size, 2, none⟩ = some (.string ⟨#[]⟩) := by rw [cell_of_row _ _ _ _ _ _ HF16.out]; rfl
            have hz23 : w2.frozen? ⟨w1.heap.size, 2, none⟩ = false := frozen_of_row _ _ _ _ _ HF16.out
            have HF24 := Lib.hid (show (w2.setCell ⟨w1.heap.size, 2, none⟩ (.string t)).heap[w.heap.size]? = some (.cells #[.int .i64 0, .int .i64 0, .string ⟨#[]⟩] 61 (0, 0)) by rw [Below.heap_setCell _ _ _ _ (by show w.heap.size ≠ w1.heap.size; omega)]; exact HF15.out)
            have HF25 := Lib.hid (show (w2.setCell ⟨w1.heap.size, 2, none⟩ (.string t)).heap[w1.heap.size]? = some (.cells #[.int .i64 3, .int .i64 0, .string t] 61 (0, 0)) by have h := heap_setCell_at (i := 2) (u := .string t) HF16.out; exact h)
            have HK26 := Lib.hid (HK17.out.setNew (b := w1.heap.size) (by omega) 2 (.string t))
            have HS27 := Lib.hid (HS18.out.kept (show (w2.setCell ⟨w1.heap.size, 2, none⟩ (.string t)).heap[B]? = w2.heap[B]? from Below.heap_setCell _ _ _ _ (by show B ≠ w1.heap.size; omega)))
            go_wp2_with fail
            refine (HCK.out (w2.setCell ⟨w1.heap.size, 2, none⟩ (.string t))).mono ?_
            rintro e w3 ⟨rfl, hb⟩
            clear hc20 hc21 hc22 hz23
            have HF28 := Lib.hid (blk_below HF24.out hb)
            have HF29 := Lib.hid (blk_below HF25.out hb)
            have HK30 := Lib.hid (HK26.out.trans (But.of_below hb))
            have HS31 := Lib.hid (HS27.out.kept (hb.block B HS27.out.lt))
            clear hb HK26 HS27 HF24 HF25
            have hk32 := HK30.out.size
            go_wp2_with fail
            refine (errZ _ B S _ _ HS31.out).mono ?_
            rintro e w' ⟨rfl, rfl⟩
            go_wp2_with (first
              | refine wpList_store_rowY rfl 61 (.tmp 2) (.tmp 32) rfl (w.heap.size) #[.int .i64 0, .int .i64 0, .string ⟨#[]⟩] rfl rfl 61 _ HF28.out (info_val _ _ _) rfl (one_val _ _ _) w.heap.size w3 (Below.refl _ _) (by omega) ?_)
            intro W4 hbk hoth hbel _
            have HF33 := Lib.hid hbk.out
            have HF34 := Lib.hid (blk_oth HF29.out hoth.out (by omega))
            have HK35 := Lib.hid (but_row HK30.out hbel.out)
            have HS36 := Lib.hid (HS31.out.kept (hoth.out B (by omega)))
            clear hbk hoth hbel HK30 HS31 HF28 HF29
            go_wp2_with fail
            refine bodyPost_ret (results_cY rfl _ _ (w.heap.size) #[.int .i64 0, .int .i64 0, .string ⟨#[]⟩] rfl (run_loadVar_row _ (w.heap.size) 61 61 _ (0, 0) _ HF33.out Tryz.underlying61 rfl (info_val _ _ _))) rfl ?_
            exact ⟨rfl, HS36.out, HK35.out⟩
      · rw [if_neg k3] at hM
        have kb3 : (k == 3) = false := by simpa using k3
        have lq := l1
        cases hv : vok k 0 ⟨#[]⟩ with
        | false =>
          obtain ⟨r1, r2⟩ := rv_bad hM hv
          rw [r2, r1, hM]
          dsimp only [vvv]
          have HCK := Lib.hid (fun W : World => vcheck_any k (0 : Int) ⟨#[]⟩ W)
          rw [errV_no hv] at HCK
          have HF := Lib.hid (fun (W : World) (h : Sc W B true S q1 e1) => failU W B S q1 e1 3 (by omega) lq h)
          have hf := fail_ne e1
          generalize Rd.fail e1 3 = f at HF hf ⊢
          have hn : (f != 0) = true := by simpa using hf
          have hn2 : (f == 0) = false := by simpa using hf
          clear k1 k2 k3 hM hv r1 r2 hf lq
          have HK1 := Lib.hid (But.refl B w)
          have HS2 := Lib.hid h
          clear h
          go_enter Tryz.func122, Tryz.ntmps122
          go_wp2_with fail
          have HF3 := Lib.hid (blk_new w (.cells #[.int .i64 0, .int .i64 0, .string ⟨#[]⟩] 61 (0, 0)))
          have HK4 := Lib.hid (HK1.out.alloc (.cells #[.int .i64 0, .int .i64 0, .string ⟨#[]⟩] 61 (0, 0)))
          clear HK1
          have HS5 := Lib.hid (HS2.out.alloc (.cells #[.int .i64 0, .int .i64 0, .string ⟨#[]⟩] 61 (0, 0)))
          clear HS2
          refine (H1.out (w.alloc (.cells #[.int .i64 0, .int .i64 0, .string ⟨#[]⟩] 61 (0, 0))) HS5.out).mono ?_
          rintro e w1 ⟨rfl, hs, hk⟩
          have HF6 := Lib.hid (blk_but HF3.out hk (by omega))
          have HK7 := Lib.hid (HK4.out.trans hk)
          have HS8 := Lib.hid (hs)
          clear hs hk HK4 HS5 HF3
          have hk9 := HK7.out.size
          have hk10 : w.heap.size < w1.heap.size := lt_of_block HF6.out
          have HF11 := Lib.hid (blk_alloc HF6.out (.cells #[.int .i64 k, .int .i64 0, .string ⟨#[]⟩] 61 (0, 0)))
          have HF12 := Lib.hid (blk_new w1 (.cells #[.int .i64 k, .int .i64 0, .string ⟨#[]⟩] 61 (0, 0)))
          have HK13 := Lib.hid (HK7.out.alloc (.cells #[.int .i64 k, .int .i64 0, .string ⟨#[]⟩] 61 (0, 0)))
          clear HK7
          have HS14 := Lib.hid (HS8.out.alloc (.cells #[.int .i64 k, .int .i64 0, .string ⟨#[]⟩] 61 (0, 0)))
          clear HS8
          go_wp2_with fail
          refine (HCK.out (w1.alloc (.cells #[.int .i64 k, .int .i64 0, .string ⟨#[]⟩] 61 (0, 0)))).mono ?_
          rintro e w2 ⟨rfl, hb⟩
          have HF15 := Lib.hid (blk_below HF11.out hb)
          have HF16 := Lib.hid (blk_below HF12.out hb)
          have HK17 := Lib.hid (HK13.out.trans (But.of_below hb))
          have HS18 := Lib.hid (HS14.out.kept (hb.block B HS14.out.lt))
          clear hb HK13 HS14 HF11 HF6 HF12
          have hk19 := HK17.out.size
          go_wp2_with fail
          refine (HF.out w2 HS18.out).mono ?_
          rintro e w3 ⟨rfl, hs, hk⟩
          have HF20 := Lib.hid (blk_but HF15.out hk (by omega))
          have HF21 := Lib.hid (blk_but HF16.out hk (by omega))
          have HK22 := Lib.hid (HK17.out.trans hk)
          have HS23 := Lib.hid (hs)
          clear hs hk HK17 HS18 HF15 HF16
          have hk24 := HK22.out.size
          go_wp2_with fail
          refine (errZ _ B S _ _ HS23.out).mono ?_
          rintro e w' ⟨rfl, rfl⟩
          go_wp2_with (first
            | refine wpList_store_rowY rfl 61 (.tmp 2) (.tmp 32) rfl (w.heap.size) #[.int .i64 0, .int .i64 0, .string ⟨#[]⟩] rfl rfl 61 _ HF20.out (info_val _ _ _) rfl (one_val _ _ _) w.heap.size w3 (Below.refl _ _) (by omega) ?_)
          intro W4 hbk hoth hbel _
          have HF25 := Lib.hid hbk.out
          have HF26 := Lib.hid (blk_oth HF21.out hoth.out (by omega))
          have HK27 := Lib.hid (but_row HK22.out hbel.out)
          have HS28 := Lib.hid (HS23.out.kept (hoth.out B (by omega)))
          clear hbk hoth hbel HK22 HS23 HF20 HF21
          go_wp2_with fail
          refine bodyPost_ret (results_cY rfl _ _ (w.heap.size) #[.int .i64 0, .int .i64 0, .string ⟨#[]⟩] rfl (run_loadVar_row _ (w.heap.size) 61 61 _ (0, 0) _ HF25.out Tryz.underlying61 rfl (info_val _ _ _))) rfl ?_
          exact ⟨rfl, HS28.out, HK27.out⟩
        | true =>
          exfalso
          unfold vok at hv
          rw [if_neg k1, if_neg k2] at hv
          simp [k3] at hv
end Go.Proofs.YtagenkofoacajaaGreat
