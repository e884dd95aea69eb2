/- The disk family, merged for a claim. Conditions as in its parts. -/
import Derived.Test.YtiagbadnmkeokaaDNc
import Derived.Lib.MinMax
namespace Go.Proofs.Ytiagbadnmkeokaa
open Go.RowKit Vi

theorem rd_grown {α : Type} {f : α → List Value} {s : Nat} {w w' : World} {A : Option Addr} {n : Nat} {l : List α} (h : RdX f s w A n l) (hb : Below w.heap.size w w') : RdX f s w' A n l := h.below hb
set_option maxRecDepth 100000 in
set_option maxHeartbeats 4000000 in
theorem rcopy_any (A : Option Addr) (n c : Nat) (A2 : Option Addr) (n2 c2 : Nat) (SS : List ByteArray) (CC : List Wr) (w : World) (h2 : RdX stC 1 w A n SS) (h3 : RdX wrC 2 w A2 n2 CC) (hs : n ≤ 100000) (hc : n2 ≤ 100000) :
    Calls Try.prog 15 #[.agg #[.slice A n c, .slice A2 n2 c2]] w (CpP SS CC w) := by
  have HB0 := Lib.hid (((Below.refl w.heap.size w).alloc (Nat.le_refl _) (.cells #[.slice A n c, .slice A2 n2 c2] 32 (0, 0))).alloc (by simp) (.cells #[.slice none 0 0, .slice none 0 0] 32 (0, 0)))
  have HX0 := Lib.hid (blk_alloc (blk_new w (.cells #[.slice A n c, .slice A2 n2 c2] 32 (0, 0))) (.cells #[.slice none 0 0, .slice none 0 0] 32 (0, 0)))
  have HR0 : Hid (((w.alloc (.cells #[.slice A n c, .slice A2 n2 c2] 32 (0, 0))).alloc (.cells #[.slice none 0 0, .slice none 0 0] 32 (0, 0))).heap[w.heap.size + 1]? = some (.cells #[.slice none 0 0, .slice none 0 0] 32 (0, 0))) := Lib.hid (two_blk w (.cells #[.slice A n c, .slice A2 n2 c2] 32 (0, 0)) (.cells #[.slice none 0 0, .slice none 0 0] 32 (0, 0)))
  have HA0 := Lib.hid (h2.below HB0.out)
  have HC0 := Lib.hid (h3.below HB0.out)
  have hrA := h2
  have hrC := h3
  clear h2 h3
  have HA0R := Lib.hid hrA
  have HC0R := Lib.hid hrC
  clear hrA hrC
  go_enter Try.func15, Try.ntmps15
  go_upto_region 1 with (fail)
  obtain ⟨W0, hv⟩ : ∃ v, v = (w.alloc (.cells #[.slice A n c, .slice A2 n2 c2] 32 (0, 0))).alloc (.cells #[.slice none 0 0, .slice none 0 0] 32 (0, 0)) := ⟨_, rfl⟩
  rw [← hv] at HB0 HX0 HR0 HA0 HC0
  rw [← hv]
  clear hv
  have HB0 := Lib.hid HB0.out.drew
  have HA0 := Lib.hid HA0.out.drew
  have HC0 := Lib.hid HC0.out.drew
  have HX0 : Hid (W0.drew.heap[w.heap.size]? = some (.cells #[.slice A n c, .slice A2 n2 c2] 32 (0, 0))) := Lib.hid HX0.out
  have HR0 : Hid (W0.drew.heap[w.heap.size + 1]? = some (.cells #[.slice none 0 0, .slice none 0 0] 32 (0, 0))) := Lib.hid HR0.out
  refine wp_region_L_drew (S := fun _ W => W.heap[w.heap.size]? = some (.cells #[.slice A n c, .slice A2 n2 c2] 32 (0, 0))) (by kernel_rfl) HX0.out (fun hS hC => ?_)
  generalize W0.drew = U at *
  refine wpAnyL_take (i := 1) (oi := { dst := some 4, op := .fieldAddr 32 (.tmp 1) 0, type := _, pos := _, after := _, guard := none }) (v := ?_) rfl (by kernel_rfl) (by kernel_rfl) (by kernel_rfl) (fun _ _ _ h => h) (fun _ _ => Iff.rfl) hC (Or.inl ⟨by rfl, ?_⟩) hS (fun hC hS => ?_)
  rotate_left
  · intro W9 hSw; skip; go_simp; try (with_reducible rfl)
  try simp only [Act.put, List.setIfInBounds_toArray, List.set_cons_zero, List.set_cons_succ]
  refine wpAnyL_take (i := 2) (oi := { dst := some 5, op := .load 29 (.tmp 4), type := _, pos := _, after := _, guard := none }) (v := ?_) rfl (by kernel_rfl) (by kernel_rfl) (by kernel_rfl) (fun _ _ _ h => h) (fun _ _ => Iff.rfl) hC (Or.inl ⟨by rfl, ?_⟩) hS (fun hC hS => ?_)
  rotate_left
  · intro W9 hSw; have q0 := (cell_of_row _ _ 0 _ _ _ hSw.choose_spec.2.2).trans rfl; go_simp; try (with_reducible rfl)
  try simp only [Act.put, List.setIfInBounds_toArray, List.set_cons_zero, List.set_cons_succ]
  refine wpAnyL_take (i := 5) (oi := { dst := some 8, op := .fieldAddr 32 (.tmp 1) 1, type := _, pos := _, after := _, guard := none }) (v := ?_) rfl (by kernel_rfl) (by kernel_rfl) (by kernel_rfl) (fun _ _ _ h => h) (fun _ _ => Iff.rfl) hC (Or.inl ⟨by rfl, ?_⟩) hS (fun hC hS => ?_)
  rotate_left
  · intro W9 hSw; skip; go_simp; try (with_reducible rfl)
  try simp only [Act.put, List.setIfInBounds_toArray, List.set_cons_zero, List.set_cons_succ]
  refine wpAnyL_take (i := 6) (oi := { dst := some 9, op := .load 30 (.tmp 8), type := _, pos := _, after := _, guard := none }) (v := ?_) rfl (by kernel_rfl) (by kernel_rfl) (by kernel_rfl) (fun _ _ _ h => h) (fun _ _ => Iff.rfl) hC (Or.inl ⟨by rfl, ?_⟩) hS (fun hC hS => ?_)
  rotate_left
  · intro W9 hSw; have q0 := (cell_of_row _ _ 1 _ _ _ hSw.choose_spec.2.2).trans rfl; go_simp; try (with_reducible rfl)
  try simp only [Act.put, List.setIfInBounds_toArray, List.set_cons_zero, List.set_cons_succ]
  refine wpAnyL_ready (rs := [0, 4]) (by kernel_rfl) (by simp) hC ?_
  refine AllReadyL.cons (o := { dst := some 3, op := .buildSlice 29 0 #[], type := _, pos := _, after := _, guard := none }) rfl (fun K9 hK => ?_) ?_
  · skip
    go_simp
    have HX1 := Lib.hid (blk_alloc (show U.heap[w.heap.size]? = _ from HX0.out) (.cells #[] 9 (0, 0)))
    have HR1 := Lib.hid (blk_alloc (show U.heap[w.heap.size + 1]? = _ from HR0.out) (.cells #[] 9 (0, 0)))
    have HA1 := Lib.hid (HA0.out.alloc (.cells #[] 9 (0, 0)))
    have HC1 := Lib.hid (HC0.out.alloc (.cells #[] 9 (0, 0)))
    have HB1 := Lib.hid (HB0.out.alloc HB0.out.size (.cells #[] 9 (0, 0)))
    have HP1 : Hid (OwX stC 1 9 (U.alloc (.cells #[] 9 (0, 0))) w.heap.size (.slice (some ⟨U.heap.size, 0, none⟩) 0 0) []) := Lib.hid (OwX.zero (blk_new U (.cells #[] 9 (0, 0))) HB0.out.size (Nat.zero_le _) rfl)
    clear hS
    clear HX0 HR0 HA0 HC0 HB0 
    generalize U.alloc (.cells #[] 9 (0, 0)) = W1 at *
    refine hK _ _ HX1.out (fun hC => ?_)
    clear hK K9
    try simp only [Act.put, List.setIfInBounds_toArray, List.set_cons_zero, List.set_cons_succ]
    refine wpAnyL_ready (rs := [3, 4]) (by kernel_rfl) (by simp) hC ?_
    refine AllReadyL.cons (o := { dst := some 6, op := .call { callee := .builtin .append, args := #[.tmp 3, .tmp 5], argTypes := #[29, 29] }, type := _, pos := _, after := _, guard := none }) rfl (fun K9 hK => ?_) ?_
    · skip
      refine step_appXs rfl (.tmp 3) (.tmp 5) 29 9 _ 16 rfl Try.underlying29 info_stA rfl (by omega) (by omega) stC_len stC_one w.heap.size w HB1.out HB1.out.size _ [] rfl HP1.out A n c SS rfl HA1.out (by simp; omega) ?_
      intro v2 W2 hown2 hbel2 _ hgr2
      rw [List.nil_append] at hown2
      have HP2 := hown2
      have HB2 := hbel2
      have HX2 := Lib.hid (HP1.out.box hgr2.out HX1.out (Or.inl (by decide)))
      have HR2 := Lib.hid (HP1.out.box hgr2.out HR1.out (Or.inl (by decide)))
      have HA2 := Lib.hid (rd_grown HA0R.out HB2.out)
      have HC2 := Lib.hid (rd_grown HC0R.out HB2.out)
      obtain ⟨PA, Pn, Pc, rfl⟩ := HP2.out.sl3
      clear hS hown2 hbel2
      clear HX1 HR1 HA1 HC1 HB1 HP1
      refine hK _ _ HX2.out (fun hC => ?_)
      clear hK K9
      try simp only [Act.put, List.setIfInBounds_toArray, List.set_cons_zero, List.set_cons_succ]
      refine wpAnyL_ready (rs := [4]) (by kernel_rfl) (by simp) hC ?_
      refine AllReadyL.cons (o := { dst := some 7, op := .buildSlice 30 0 #[], type := _, pos := _, after := _, guard := none }) rfl (fun K9 hK => ?_) ?_
      · skip
        go_simp
        have HX3 := Lib.hid (blk_alloc (show W2.heap[w.heap.size]? = _ from HX2.out) (.cells #[] 91 (0, 0)))
        have HR3 := Lib.hid (blk_alloc (show W2.heap[w.heap.size + 1]? = _ from HR2.out) (.cells #[] 91 (0, 0)))
        have HA3 := Lib.hid (HA2.out.alloc (.cells #[] 91 (0, 0)))
        have HC3 := Lib.hid (HC2.out.alloc (.cells #[] 91 (0, 0)))
        have HB3 := Lib.hid (HB2.out.alloc HB2.out.size (.cells #[] 91 (0, 0)))
        have HP3 := Lib.hid (HP2.out.alloc (.cells #[] 91 (0, 0)))
        have HQ3 : Hid (OwX wrC 2 91 (W2.alloc (.cells #[] 91 (0, 0))) w.heap.size (.slice (some ⟨W2.heap.size, 0, none⟩) 0 0) []) := Lib.hid (OwX.zero (blk_new W2 (.cells #[] 91 (0, 0))) HB2.out.size (Nat.zero_le _) rfl)
        clear hS
        clear HX2 HR2 HA2 HC2 HB2 HP2
        generalize W2.alloc (.cells #[] 91 (0, 0)) = W3 at *
        refine hK _ _ HX3.out (fun hC => ?_)
        clear hK K9
        try simp only [Act.put, List.setIfInBounds_toArray, List.set_cons_zero, List.set_cons_succ]
        refine wpAnyL_ready (rs := [7]) (by kernel_rfl) (by simp) hC ?_
        refine AllReadyL.cons (o := { dst := some 10, op := .call { callee := .builtin .append, args := #[.tmp 7, .tmp 9], argTypes := #[30, 30] }, type := _, pos := _, after := _, guard := none }) rfl (fun K9 hK => ?_) ?_
        · skip
          refine step_appXs rfl (.tmp 7) (.tmp 9) 30 91 _ 24 rfl Try.underlying30 info_wrB rfl (by omega) (by omega) wrC_len wrC_one w.heap.size w HB3.out HB3.out.size _ [] rfl HQ3.out A2 n2 c2 CC rfl HC3.out (by simp; omega) ?_
          intro v4 W4 hown4 hbel4 _ hgr4
          rw [List.nil_append] at hown4
          have HQ4 := hown4
          have HB4 := hbel4
          have HX4 := Lib.hid (HQ3.out.box hgr4.out HX3.out (Or.inl (by decide)))
          have HR4 := Lib.hid (HQ3.out.box hgr4.out HR3.out (Or.inl (by decide)))
          have HP4 := Lib.hid (HP3.out.other HQ3.out (by decide) hgr4.out)
          have HA4 := Lib.hid (rd_grown HA0R.out HB4.out)
          have HC4 := Lib.hid (rd_grown HC0R.out HB4.out)
          obtain ⟨QA, Qn, Qc, rfl⟩ := HQ4.out.sl3
          clear hS hown4 hbel4
          clear HX3 HR3 HA3 HC3 HB3 HP3 HQ3
          refine hK _ _ HX4.out (fun hC => ?_)
          clear hK K9
          try simp only [Act.put, List.setIfInBounds_toArray, List.set_cons_zero, List.set_cons_succ]
          refine wpAnyL_take (i := 8) (oi := { dst := some 11, op := .build 32 #[(0, .tmp 6), (1, .tmp 10)], type := _, pos := _, after := _, guard := none }) (v := ?_) rfl (by kernel_rfl) (by kernel_rfl) (by kernel_rfl) (fun _ _ _ h => h) (fun _ _ => Iff.rfl) hC (Or.inl ⟨by rfl, ?_⟩) HX4.out (fun hC hS => ?_)
          rotate_left
          · intro W9 hSw; skip; go_simp; try (with_reducible rfl)
          try simp only [Act.put, List.setIfInBounds_toArray, List.set_cons_zero, List.set_cons_succ]
          refine wpAnyL_ready (rs := [9]) (by kernel_rfl) (by simp) hC ?_
          refine AllReadyL.cons (o := { dst := none, op := .store 32 (.tmp 2) (.tmp 11), type := _, pos := _, after := _, guard := none }) rfl (fun K9 hK => ?_) ?_
          · skip
            have y0 : W4.cell? ⟨w.heap.size + 1, 0, none⟩ = some (.slice none 0 0) := (cell_of_row _ _ 0 _ _ _ HR4.out).trans rfl
            have y1 : W4.cell? ⟨w.heap.size + 1, 1, none⟩ = some (.slice none 0 0) := (cell_of_row _ _ 1 _ _ _ HR4.out).trans rfl
            have f0 : W4.frozen? ⟨w.heap.size + 1, 0, none⟩ = false := frozen_of_row _ _ _ _ _ HR4.out
            have f1 : W4.frozen? ⟨w.heap.size + 1, 1, none⟩ = false := frozen_of_row _ _ _ _ _ HR4.out
            go_simp
            have HK := Lib.hid (((KK.refl [w.heap.size + 1] W4).set (b := w.heap.size + 1) (by simp) 0 (.slice PA Pn Pc)).set (b := w.heap.size + 1) (by simp) 1 (.slice QA Qn Qc))
            have HR9 := Lib.hid (show ((W4.setCell ⟨w.heap.size + 1, 0, none⟩ (.slice PA Pn Pc)).setCell ⟨w.heap.size + 1, 1, none⟩ (.slice QA Qn Qc)).heap[w.heap.size + 1]? = some (.cells #[.slice PA Pn Pc, .slice QA Qn Qc] 32 (0, 0)) by have q := heap_setCell_at (i := 1) (u := .slice QA Qn Qc) (heap_setCell_at (i := 0) (u := .slice PA Pn Pc) HR4.out); exact q)
            have HP9 := Lib.hid (HP4.out.kkD HK.out HR4.out (by decide))
            have HQ9 := Lib.hid (HQ4.out.kkD HK.out HR4.out (by decide))
            have HB9 := Lib.hid (HK.out.below HB4.out (fun b hb => by obtain rfl : b = w.heap.size + 1 := (by simpa using hb); omega) HB4.out.size)
            have HX9 := HK.out.blk HX4.out (by simp)
            clear hS y0 y1 f0 f1
            refine hK _ _ HX9 (fun hC => ?_)
            clear hK K9
            try simp only [Act.put, List.setIfInBounds_toArray, List.set_cons_zero, List.set_cons_succ]
            refine wpAnyL_done (by kernel_rfl) ?_ _
            go_wp2_with fail
            refine bodyPost_ret (results_cY rfl _ _ (w.heap.size + 1) #[.slice PA Pn Pc, .slice QA Qn Qc] rfl (run_loadVar_row _ (w.heap.size + 1) 32 32 _ (0, 0) _ HR9.out Try.underlying32 rfl (by kernel_rfl))) rfl ?_
            exact ⟨_, _, _, _, _, _, rfl, HP9.out, HQ9.out, HB9.out⟩
          exact AllReadyL.nil
        exact AllReadyL.nil
      exact AllReadyL.nil
    refine AllReadyL.cons (o := { dst := some 7, op := .buildSlice 30 0 #[], type := _, pos := _, after := _, guard := none }) rfl (fun K9 hK => ?_) ?_
    · skip
      go_simp
      have HX2 := Lib.hid (blk_alloc (show W1.heap[w.heap.size]? = _ from HX1.out) (.cells #[] 91 (0, 0)))
      have HR2 := Lib.hid (blk_alloc (show W1.heap[w.heap.size + 1]? = _ from HR1.out) (.cells #[] 91 (0, 0)))
      have HA2 := Lib.hid (HA1.out.alloc (.cells #[] 91 (0, 0)))
      have HC2 := Lib.hid (HC1.out.alloc (.cells #[] 91 (0, 0)))
      have HB2 := Lib.hid (HB1.out.alloc HB1.out.size (.cells #[] 91 (0, 0)))
      have HP2 := Lib.hid (HP1.out.alloc (.cells #[] 91 (0, 0)))
      have HQ2 : Hid (OwX wrC 2 91 (W1.alloc (.cells #[] 91 (0, 0))) w.heap.size (.slice (some ⟨W1.heap.size, 0, none⟩) 0 0) []) := Lib.hid (OwX.zero (blk_new W1 (.cells #[] 91 (0, 0))) HB1.out.size (Nat.zero_le _) rfl)
      clear hS
      clear HX1 HR1 HA1 HC1 HB1 HP1
      generalize W1.alloc (.cells #[] 91 (0, 0)) = W2 at *
      refine hK _ _ HX2.out (fun hC => ?_)
      clear hK K9
      try simp only [Act.put, List.setIfInBounds_toArray, List.set_cons_zero, List.set_cons_succ]
      refine wpAnyL_ready (rs := [3]) (by kernel_rfl) (by simp) hC ?_
      refine AllReadyL.cons (o := { dst := some 6, op := .call { callee := .builtin .append, args := #[.tmp 3, .tmp 5], argTypes := #[29, 29] }, type := _, pos := _, after := _, guard := none }) rfl (fun K9 hK => ?_) ?_
      · skip
        refine step_appXs rfl (.tmp 3) (.tmp 5) 29 9 _ 16 rfl Try.underlying29 info_stA rfl (by omega) (by omega) stC_len stC_one w.heap.size w HB2.out HB2.out.size _ [] rfl HP2.out A n c SS rfl HA2.out (by simp; omega) ?_
        intro v3 W3 hown3 hbel3 _ hgr3
        rw [List.nil_append] at hown3
        have HP3 := hown3
        have HB3 := hbel3
        have HX3 := Lib.hid (HP2.out.box hgr3.out HX2.out (Or.inl (by decide)))
        have HR3 := Lib.hid (HP2.out.box hgr3.out HR2.out (Or.inl (by decide)))
        have HQ3 := Lib.hid (HQ2.out.other HP2.out (by decide) hgr3.out)
        have HA3 := Lib.hid (rd_grown HA0R.out HB3.out)
        have HC3 := Lib.hid (rd_grown HC0R.out HB3.out)
        obtain ⟨PA, Pn, Pc, rfl⟩ := HP3.out.sl3
        clear hS hown3 hbel3
        clear HX2 HR2 HA2 HC2 HB2 HP2 HQ2
        refine hK _ _ HX3.out (fun hC => ?_)
        clear hK K9
        try simp only [Act.put, List.setIfInBounds_toArray, List.set_cons_zero, List.set_cons_succ]
        refine wpAnyL_ready (rs := [7]) (by kernel_rfl) (by simp) hC ?_
        refine AllReadyL.cons (o := { dst := some 10, op := .call { callee := .builtin .append, args := #[.tmp 7, .tmp 9], argTypes := #[30, 30] }, type := _, pos := _, after := _, guard := none }) rfl (fun K9 hK => ?_) ?_
        · skip
          refine step_appXs rfl (.tmp 7) (.tmp 9) 30 91 _ 24 rfl Try.underlying30 info_wrB rfl (by omega) (by omega) wrC_len wrC_one w.heap.size w HB3.out HB3.out.size _ [] rfl HQ3.out A2 n2 c2 CC rfl HC3.out (by simp; omega) ?_
          intro v4 W4 hown4 hbel4 _ hgr4
          rw [List.nil_append] at hown4
          have HQ4 := hown4
          have HB4 := hbel4
          have HX4 := Lib.hid (HQ3.out.box hgr4.out HX3.out (Or.inl (by decide)))
          have HR4 := Lib.hid (HQ3.out.box hgr4.out HR3.out (Or.inl (by decide)))
          have HP4 := Lib.hid (HP3.out.other HQ3.out (by decide) hgr4.out)
          have HA4 := Lib.hid (rd_grown HA0R.out HB4.out)
          have HC4 := Lib.hid (rd_grown HC0R.out HB4.out)
          obtain ⟨QA, Qn, Qc, rfl⟩ := HQ4.out.sl3
          clear hS hown4 hbel4
          clear HX3 HR3 HA3 HC3 HB3 HP3 HQ3
          refine hK _ _ HX4.out (fun hC => ?_)
          clear hK K9
          try simp only [Act.put, List.setIfInBounds_toArray, List.set_cons_zero, List.set_cons_succ]
          refine wpAnyL_take (i := 8) (oi := { dst := some 11, op := .build 32 #[(0, .tmp 6), (1, .tmp 10)], type := _, pos := _, after := _, guard := none }) (v := ?_) rfl (by kernel_rfl) (by kernel_rfl) (by kernel_rfl) (fun _ _ _ h => h) (fun _ _ => Iff.rfl) hC (Or.inl ⟨by rfl, ?_⟩) HX4.out (fun hC hS => ?_)
          rotate_left
          · intro W9 hSw; skip; go_simp; try (with_reducible rfl)
          try simp only [Act.put, List.setIfInBounds_toArray, List.set_cons_zero, List.set_cons_succ]
          refine wpAnyL_ready (rs := [9]) (by kernel_rfl) (by simp) hC ?_
          refine AllReadyL.cons (o := { dst := none, op := .store 32 (.tmp 2) (.tmp 11), type := _, pos := _, after := _, guard := none }) rfl (fun K9 hK => ?_) ?_
          · skip
            have y0 : W4.cell? ⟨w.heap.size + 1, 0, none⟩ = some (.slice none 0 0) := (cell_of_row _ _ 0 _ _ _ HR4.out).trans rfl
            have y1 : W4.cell? ⟨w.heap.size + 1, 1, none⟩ = some (.slice none 0 0) := (cell_of_row _ _ 1 _ _ _ HR4.out).trans rfl
            have f0 : W4.frozen? ⟨w.heap.size + 1, 0, none⟩ = false := frozen_of_row _ _ _ _ _ HR4.out
            have f1 : W4.frozen? ⟨w.heap.size + 1, 1, none⟩ = false := frozen_of_row _ _ _ _ _ HR4.out
            go_simp
            have HK := Lib.hid (((KK.refl [w.heap.size + 1] W4).set (b := w.heap.size + 1) (by simp) 0 (.slice PA Pn Pc)).set (b := w.heap.size + 1) (by simp) 1 (.slice QA Qn Qc))
            have HR9 := Lib.hid (show ((W4.setCell ⟨w.heap.size + 1, 0, none⟩ (.slice PA Pn Pc)).setCell ⟨w.heap.size + 1, 1, none⟩ (.slice QA Qn Qc)).heap[w.heap.size + 1]? = some (.cells #[.slice PA Pn Pc, .slice QA Qn Qc] 32 (0, 0)) by have q := heap_setCell_at (i := 1) (u := .slice QA Qn Qc) (heap_setCell_at (i := 0) (u := .slice PA Pn Pc) HR4.out); exact q)
            have HP9 := Lib.hid (HP4.out.kkD HK.out HR4.out (by decide))
            have HQ9 := Lib.hid (HQ4.out.kkD HK.out HR4.out (by decide))
            have HB9 := Lib.hid (HK.out.below HB4.out (fun b hb => by obtain rfl : b = w.heap.size + 1 := (by simpa using hb); omega) HB4.out.size)
            have HX9 := HK.out.blk HX4.out (by simp)
            clear hS y0 y1 f0 f1
            refine hK _ _ HX9 (fun hC => ?_)
            clear hK K9
            try simp only [Act.put, List.setIfInBounds_toArray, List.set_cons_zero, List.set_cons_succ]
            refine wpAnyL_done (by kernel_rfl) ?_ _
            go_wp2_with fail
            refine bodyPost_ret (results_cY rfl _ _ (w.heap.size + 1) #[.slice PA Pn Pc, .slice QA Qn Qc] rfl (run_loadVar_row _ (w.heap.size + 1) 32 32 _ (0, 0) _ HR9.out Try.underlying32 rfl (by kernel_rfl))) rfl ?_
            exact ⟨_, _, _, _, _, _, rfl, HP9.out, HQ9.out, HB9.out⟩
          exact AllReadyL.nil
        exact AllReadyL.nil
      exact AllReadyL.nil
    exact AllReadyL.nil
  refine AllReadyL.cons (o := { dst := some 7, op := .buildSlice 30 0 #[], type := _, pos := _, after := _, guard := none }) rfl (fun K9 hK => ?_) ?_
  · skip
    go_simp
    have HX1 := Lib.hid (blk_alloc (show U.heap[w.heap.size]? = _ from HX0.out) (.cells #[] 91 (0, 0)))
    have HR1 := Lib.hid (blk_alloc (show U.heap[w.heap.size + 1]? = _ from HR0.out) (.cells #[] 91 (0, 0)))
    have HA1 := Lib.hid (HA0.out.alloc (.cells #[] 91 (0, 0)))
    have HC1 := Lib.hid (HC0.out.alloc (.cells #[] 91 (0, 0)))
    have HB1 := Lib.hid (HB0.out.alloc HB0.out.size (.cells #[] 91 (0, 0)))
    have HQ1 : Hid (OwX wrC 2 91 (U.alloc (.cells #[] 91 (0, 0))) w.heap.size (.slice (some ⟨U.heap.size, 0, none⟩) 0 0) []) := Lib.hid (OwX.zero (blk_new U (.cells #[] 91 (0, 0))) HB0.out.size (Nat.zero_le _) rfl)
    clear hS
    clear HX0 HR0 HA0 HC0 HB0 
    generalize U.alloc (.cells #[] 91 (0, 0)) = W1 at *
    refine hK _ _ HX1.out (fun hC => ?_)
    clear hK K9
    try simp only [Act.put, List.setIfInBounds_toArray, List.set_cons_zero, List.set_cons_succ]
    refine wpAnyL_ready (rs := [0]) (by kernel_rfl) (by simp) hC ?_
    refine AllReadyL.cons (o := { dst := some 3, op := .buildSlice 29 0 #[], type := _, pos := _, after := _, guard := none }) rfl (fun K9 hK => ?_) ?_
    · skip
      go_simp
      have HX2 := Lib.hid (blk_alloc (show W1.heap[w.heap.size]? = _ from HX1.out) (.cells #[] 9 (0, 0)))
      have HR2 := Lib.hid (blk_alloc (show W1.heap[w.heap.size + 1]? = _ from HR1.out) (.cells #[] 9 (0, 0)))
      have HA2 := Lib.hid (HA1.out.alloc (.cells #[] 9 (0, 0)))
      have HC2 := Lib.hid (HC1.out.alloc (.cells #[] 9 (0, 0)))
      have HB2 := Lib.hid (HB1.out.alloc HB1.out.size (.cells #[] 9 (0, 0)))
      have HQ2 := Lib.hid (HQ1.out.alloc (.cells #[] 9 (0, 0)))
      have HP2 : Hid (OwX stC 1 9 (W1.alloc (.cells #[] 9 (0, 0))) w.heap.size (.slice (some ⟨W1.heap.size, 0, none⟩) 0 0) []) := Lib.hid (OwX.zero (blk_new W1 (.cells #[] 9 (0, 0))) HB1.out.size (Nat.zero_le _) rfl)
      clear hS
      clear HX1 HR1 HA1 HC1 HB1 HQ1
      generalize W1.alloc (.cells #[] 9 (0, 0)) = W2 at *
      refine hK _ _ HX2.out (fun hC => ?_)
      clear hK K9
      try simp only [Act.put, List.setIfInBounds_toArray, List.set_cons_zero, List.set_cons_succ]
      refine wpAnyL_ready (rs := [3]) (by kernel_rfl) (by simp) hC ?_
      refine AllReadyL.cons (o := { dst := some 6, op := .call { callee := .builtin .append, args := #[.tmp 3, .tmp 5], argTypes := #[29, 29] }, type := _, pos := _, after := _, guard := none }) rfl (fun K9 hK => ?_) ?_
      · skip
        refine step_appXs rfl (.tmp 3) (.tmp 5) 29 9 _ 16 rfl Try.underlying29 info_stA rfl (by omega) (by omega) stC_len stC_one w.heap.size w HB2.out HB2.out.size _ [] rfl HP2.out A n c SS rfl HA2.out (by simp; omega) ?_
        intro v3 W3 hown3 hbel3 _ hgr3
        rw [List.nil_append] at hown3
        have HP3 := hown3
        have HB3 := hbel3
        have HX3 := Lib.hid (HP2.out.box hgr3.out HX2.out (Or.inl (by decide)))
        have HR3 := Lib.hid (HP2.out.box hgr3.out HR2.out (Or.inl (by decide)))
        have HQ3 := Lib.hid (HQ2.out.other HP2.out (by decide) hgr3.out)
        have HA3 := Lib.hid (rd_grown HA0R.out HB3.out)
        have HC3 := Lib.hid (rd_grown HC0R.out HB3.out)
        obtain ⟨PA, Pn, Pc, rfl⟩ := HP3.out.sl3
        clear hS hown3 hbel3
        clear HX2 HR2 HA2 HC2 HB2 HP2 HQ2
        refine hK _ _ HX3.out (fun hC => ?_)
        clear hK K9
        try simp only [Act.put, List.setIfInBounds_toArray, List.set_cons_zero, List.set_cons_succ]
        refine wpAnyL_ready (rs := [7]) (by kernel_rfl) (by simp) hC ?_
        refine AllReadyL.cons (o := { dst := some 10, op := .call { callee := .builtin .append, args := #[.tmp 7, .tmp 9], argTypes := #[30, 30] }, type := _, pos := _, after := _, guard := none }) rfl (fun K9 hK => ?_) ?_
        · skip
          refine step_appXs rfl (.tmp 7) (.tmp 9) 30 91 _ 24 rfl Try.underlying30 info_wrB rfl (by omega) (by omega) wrC_len wrC_one w.heap.size w HB3.out HB3.out.size _ [] rfl HQ3.out A2 n2 c2 CC rfl HC3.out (by simp; omega) ?_
          intro v4 W4 hown4 hbel4 _ hgr4
          rw [List.nil_append] at hown4
          have HQ4 := hown4
          have HB4 := hbel4
          have HX4 := Lib.hid (HQ3.out.box hgr4.out HX3.out (Or.inl (by decide)))
          have HR4 := Lib.hid (HQ3.out.box hgr4.out HR3.out (Or.inl (by decide)))
          have HP4 := Lib.hid (HP3.out.other HQ3.out (by decide) hgr4.out)
          have HA4 := Lib.hid (rd_grown HA0R.out HB4.out)
          have HC4 := Lib.hid (rd_grown HC0R.out HB4.out)
          obtain ⟨QA, Qn, Qc, rfl⟩ := HQ4.out.sl3
          clear hS hown4 hbel4
          clear HX3 HR3 HA3 HC3 HB3 HP3 HQ3
          refine hK _ _ HX4.out (fun hC => ?_)
          clear hK K9
          try simp only [Act.put, List.setIfInBounds_toArray, List.set_cons_zero, List.set_cons_succ]
          refine wpAnyL_take (i := 8) (oi := { dst := some 11, op := .build 32 #[(0, .tmp 6), (1, .tmp 10)], type := _, pos := _, after := _, guard := none }) (v := ?_) rfl (by kernel_rfl) (by kernel_rfl) (by kernel_rfl) (fun _ _ _ h => h) (fun _ _ => Iff.rfl) hC (Or.inl ⟨by rfl, ?_⟩) HX4.out (fun hC hS => ?_)
          rotate_left
          · intro W9 hSw; skip; go_simp; try (with_reducible rfl)
          try simp only [Act.put, List.setIfInBounds_toArray, List.set_cons_zero, List.set_cons_succ]
          refine wpAnyL_ready (rs := [9]) (by kernel_rfl) (by simp) hC ?_
          refine AllReadyL.cons (o := { dst := none, op := .store 32 (.tmp 2) (.tmp 11), type := _, pos := _, after := _, guard := none }) rfl (fun K9 hK => ?_) ?_
          · skip
            have y0 : W4.cell? ⟨w.heap.size + 1, 0, none⟩ = some (.slice none 0 0) := (cell_of_row _ _ 0 _ _ _ HR4.out).trans rfl
            have y1 : W4.cell? ⟨w.heap.size + 1, 1, none⟩ = some (.slice none 0 0) := (cell_of_row _ _ 1 _ _ _ HR4.out).trans rfl
            have f0 : W4.frozen? ⟨w.heap.size + 1, 0, none⟩ = false := frozen_of_row _ _ _ _ _ HR4.out
            have f1 : W4.frozen? ⟨w.heap.size + 1, 1, none⟩ = false := frozen_of_row _ _ _ _ _ HR4.out
            go_simp
            have HK := Lib.hid (((KK.refl [w.heap.size + 1] W4).set (b := w.heap.size + 1) (by simp) 0 (.slice PA Pn Pc)).set (b := w.heap.size + 1) (by simp) 1 (.slice QA Qn Qc))
            have HR9 := Lib.hid (show ((W4.setCell ⟨w.heap.size + 1, 0, none⟩ (.slice PA Pn Pc)).setCell ⟨w.heap.size + 1, 1, none⟩ (.slice QA Qn Qc)).heap[w.heap.size + 1]? = some (.cells #[.slice PA Pn Pc, .slice QA Qn Qc] 32 (0, 0)) by have q := heap_setCell_at (i := 1) (u := .slice QA Qn Qc) (heap_setCell_at (i := 0) (u := .slice PA Pn Pc) HR4.out); exact q)
            have HP9 := Lib.hid (HP4.out.kkD HK.out HR4.out (by decide))
            have HQ9 := Lib.hid (HQ4.out.kkD HK.out HR4.out (by decide))
            have HB9 := Lib.hid (HK.out.below HB4.out (fun b hb => by obtain rfl : b = w.heap.size + 1 := (by simpa using hb); omega) HB4.out.size)
            have HX9 := HK.out.blk HX4.out (by simp)
            clear hS y0 y1 f0 f1
            refine hK _ _ HX9 (fun hC => ?_)
            clear hK K9
            try simp only [Act.put, List.setIfInBounds_toArray, List.set_cons_zero, List.set_cons_succ]
            refine wpAnyL_done (by kernel_rfl) ?_ _
            go_wp2_with fail
            refine bodyPost_ret (results_cY rfl _ _ (w.heap.size + 1) #[.slice PA Pn Pc, .slice QA Qn Qc] rfl (run_loadVar_row _ (w.heap.size + 1) 32 32 _ (0, 0) _ HR9.out Try.underlying32 rfl (by kernel_rfl))) rfl ?_
            exact ⟨_, _, _, _, _, _, rfl, HP9.out, HQ9.out, HB9.out⟩
          exact AllReadyL.nil
        exact AllReadyL.nil
      exact AllReadyL.nil
    exact AllReadyL.nil
  exact AllReadyL.nil
end Go.Proofs.Ytiagbadnmkeokaa

namespace Go.Proofs.Ytiagbadnmkeokaa
open Go.RowKit Vi

/-- what a disk is: safe sectors, cached writes, what is armed, whether the power is gone, how much was done -/
structure Ds where
  S : List ByteArray
  C : List Wr
  ar : Int
  go : Bool
  op : Int
/-- a row that reads as a list, in a block of which P says something -/
def RdP {α : Type} (P : Nat → Prop) (f : α → List Value) (s : Nat) (w : World) (A : Option Addr) (n : Nat) (l : List α) : Prop := RdX f s w A n l ∧ (0 < n → ∀ b o, A = some ⟨b, o, none⟩ → P b)
theorem RdP.below {α : Type} {P : Nat → Prop} {f : α → List Value} {s : Nat} {w w' : World} {A : Option Addr} {n : Nat} {l : List α} (h : RdP P f s w A n l) (hb : Below w.heap.size w w') : RdP P f s w' A n l := ⟨h.1.below hb, h.2⟩
theorem OwX.rdP {α : Type} {P : Nat → Prop} {f : α → List Value} {s : Nat} {T : TypeId} {w : World} {B n c : Nat} {A : Option Addr} {l : List α} (hf : ∀ x, (f x).length = s) (hP : ∀ b, B ≤ b → P b) (h : OwX f s T w B (.slice A n c) l) : RdP P f s w A n l := by
  obtain ⟨A', c', e, hr, _, _⟩ := h.rd hf
  injection e with e1 e2 e3
  subst e1 e2 e3
  exact ⟨hr, fun _ b o e => by subst e; exact hP b (own_ge h)⟩
theorem OwX.oth {α : Type} {f : α → List Value} {s : Nat} {T T' : TypeId} {w w' : World} {B g : Nat} {v : Value} {l : List α} {cs : Array Value} {fr : Nat × Nat} (h : OwX f s T w B v l) (ho : ∀ k, k ≠ g → w'.heap[k]? = w.heap[k]?) (hg : w.heap[g]? = some (.cells cs T' fr)) (hT : T ≠ T') : OwX f s T w' B v l := by
  rcases h with ⟨h1, h | ⟨b, cap, cur, h2, h3, h4, h5⟩⟩
  · exact ⟨h1, .inl h⟩
  · refine ⟨h1, .inr ⟨b, cap, cur, h2, h3, (ho b (fun e => ?_)).trans h4, h5⟩⟩
    subst e
    rw [hg] at h4
    cases h4
    exact hT rfl
abbrev rdv (A : Option Addr) (n c : Nat) (A2 : Option Addr) (n2 c2 : Nat) (ar : Int) (go : Bool) (op : Int) : Value := .agg #[.slice A n c, .slice A2 n2 c2, .int .i64 ar, .bool go, .int .i64 op]
/-- a value is the document's disk -/
def RdR (P : Nat → Prop) (d : Ds) (w : World) (v : Value) : Prop := ∃ A n c A2 n2 c2, v = rdv A n c A2 n2 c2 d.ar d.go d.op ∧ RdP P stC 1 w A n d.S ∧ RdP P wrC 2 w A2 n2 d.C
theorem info_rd : (Try.prog.info? 35).map (·.size) = some 5 := by kernel_rfl
def Ds.step (d : Ds) : Ds := if d.ar = 1 then { d with ar := 0, go := true } else { d with ar := max (d.ar - 1) 0, op := d.op + 1 }
/-- a disk, and a number, are handed back -/
def RetDI (P : Nat → Prop) (d : Ds) (z : Int) (w : World) (e : Ending) (w' : World) : Prop := ∃ v, e = .returned (.tuple #[v, .int .i64 z]) ∧ RdR P d w' v ∧ Below w.heap.size w w'
/-- what step hands back: the same rows -/
def StepP (A : Option Addr) (n c : Nat) (A2 : Option Addr) (n2 c2 : Nat) (d : Ds) (w : World) (e : Ending) (w' : World) : Prop := e = .returned (.tuple #[rdv A n c A2 n2 c2 d.step.ar d.step.go d.step.op, .bool (decide (d.ar = 1))]) ∧ Below w.heap.size w w'
def RetDB (P : Nat → Prop) (d : Ds) (z : Bool) (w : World) (e : Ending) (w' : World) : Prop := ∃ v, e = .returned (.tuple #[v, .bool z]) ∧ RdR P d w' v ∧ Below w.heap.size w w'
def RetD (P : Nat → Prop) (d : Ds) (w : World) (e : Ending) (w' : World) : Prop := ∃ v, e = .returned v ∧ RdR P d w' v ∧ Below w.heap.size w w'
set_option maxRecDepth 100000 in
theorem rin_any (A : Option Addr) (n c : Nat) (A2 : Option Addr) (n2 c2 : Nat) (ar : Int) (go : Bool) (op : Int) (i : Int) (w : World) : Calls Try.prog 83 #[rdv A n c A2 n2 c2 ar go op, .int .i64 i] w (RetBl (decide (0 ≤ i ∧ i < (n : Int))) w) := by
  by_cases q : 0 ≤ i
  · have d1 : decide ((0 : Int) ≤ i) = true := decide_eq_true q
    have d1' : decide (i ≥ (0 : Int)) = true := decide_eq_true q
    by_cases k : i < (n : Int)
    · have d2 : decide (i < (n : Int)) = true := decide_eq_true k
      have HR := Lib.hid (show true = decide (0 ≤ i ∧ i < (n : Int)) from (decide_eq_true ⟨q, k⟩).symm)
      clear q k
      have HB1 := Lib.hid (Below.refl w.heap.size w)
      have HF2 := Lib.hid (blk_new w (.cells #[.slice A n c, .slice A2 n2 c2, .int .i64 ar, .bool go, .int .i64 op] 35 (0, 0)))
      have HB3 := Lib.hid (HB1.out.alloc HB1.out.size (.cells #[.slice A n c, .slice A2 n2 c2, .int .i64 ar, .bool go, .int .i64 op] 35 (0, 0)))
      clear HB1
      obtain ⟨v, hv⟩ : ∃ v, v = (w.alloc (.cells #[.slice A n c, .slice A2 n2 c2, .int .i64 ar, .bool go, .int .i64 op] 35 (0, 0))) := ⟨_, rfl⟩
      have HVv := Lib.hid hv
      rw [← hv] at HF2 HB3
      clear hv
      go_enter Try.func83, Try.ntmps83
      go_upto_region 1 with (fail)
      rw [← HVv.out]
      have hc4 : v.cell? ⟨w.heap.size, 0, none⟩ = some (.slice A n c) := by rw [cell_of_row _ _ _ _ _ _ HF2.out]; rfl
      go_wp2_with fail
      go_ret
      exact ⟨dk_retB HR.out, HB3.out⟩
    · have d2 : decide (i < (n : Int)) = false := decide_eq_false k
      have HR := Lib.hid (show false = decide (0 ≤ i ∧ i < (n : Int)) from (decide_eq_false fun z => k z.2).symm)
      clear q k
      have HB1 := Lib.hid (Below.refl w.heap.size w)
      have HF2 := Lib.hid (blk_new w (.cells #[.slice A n c, .slice A2 n2 c2, .int .i64 ar, .bool go, .int .i64 op] 35 (0, 0)))
      have HB3 := Lib.hid (HB1.out.alloc HB1.out.size (.cells #[.slice A n c, .slice A2 n2 c2, .int .i64 ar, .bool go, .int .i64 op] 35 (0, 0)))
      clear HB1
      obtain ⟨v, hv⟩ : ∃ v, v = (w.alloc (.cells #[.slice A n c, .slice A2 n2 c2, .int .i64 ar, .bool go, .int .i64 op] 35 (0, 0))) := ⟨_, rfl⟩
      have HVv := Lib.hid hv
      rw [← hv] at HF2 HB3
      clear hv
      go_enter Try.func83, Try.ntmps83
      go_upto_region 1 with (fail)
      rw [← HVv.out]
      have hc4 : v.cell? ⟨w.heap.size, 0, none⟩ = some (.slice A n c) := by rw [cell_of_row _ _ _ _ _ _ HF2.out]; rfl
      go_wp2_with fail
      go_ret
      exact ⟨dk_retB HR.out, HB3.out⟩
  · have d1 : decide ((0 : Int) ≤ i) = false := decide_eq_false q
    have d1' : decide (i ≥ (0 : Int)) = false := decide_eq_false q
    have HR := Lib.hid (show false = decide (0 ≤ i ∧ i < (n : Int)) from (decide_eq_false fun z => q z.1).symm)
    clear q
    have HB1 := Lib.hid (Below.refl w.heap.size w)
    have HF2 := Lib.hid (blk_new w (.cells #[.slice A n c, .slice A2 n2 c2, .int .i64 ar, .bool go, .int .i64 op] 35 (0, 0)))
    have HB3 := Lib.hid (HB1.out.alloc HB1.out.size (.cells #[.slice A n c, .slice A2 n2 c2, .int .i64 ar, .bool go, .int .i64 op] 35 (0, 0)))
    clear HB1
    obtain ⟨v, hv⟩ : ∃ v, v = (w.alloc (.cells #[.slice A n c, .slice A2 n2 c2, .int .i64 ar, .bool go, .int .i64 op] 35 (0, 0))) := ⟨_, rfl⟩
    have HVv := Lib.hid hv
    rw [← hv] at HF2 HB3
    clear hv
    go_enter Try.func83, Try.ntmps83
    go_upto_region 1 with (fail)
    rw [← HVv.out]
    have hc4 : v.cell? ⟨w.heap.size, 0, none⟩ = some (.slice A n c) := by rw [cell_of_row _ _ _ _ _ _ HF2.out]; rfl
    go_wp2_with fail
    go_ret
    exact ⟨dk_retB HR.out, HB3.out⟩
set_option maxRecDepth 100000 in
set_option maxHeartbeats 2000000 in
theorem rstep_any (d : Ds) (A : Option Addr) (n c : Nat) (A2 : Option Addr) (n2 c2 : Nat) (w : World) (ha : 0 ≤ d.ar ∧ d.ar ≤ 9223372036854775807) (ho : -1000000000 ≤ d.op ∧ d.op ≤ 1000000000) :
    Calls Try.prog 84 #[rdv A n c A2 n2 c2 d.ar d.go d.op] w (StepP A n c A2 n2 c2 d w) := by
  obtain ⟨SS, CC, ar, go, op⟩ := d
  have ha1 : 0 ≤ ar := ha.1
  have ha2 : ar ≤ 9223372036854775807 := ha.2
  have ho1 : -1000000000 ≤ op := ho.1
  have ho2 : op ≤ 1000000000 := ho.2
  clear ha ho
  dsimp only
  by_cases hq : ar = 1
  · have HS := Lib.hid (show (Ds.step ⟨SS, CC, ar, go, op⟩) = ⟨SS, CC, 0, true, op⟩ by unfold Ds.step; rw [if_pos hq])
    have d1 : (ar == 1) = true := by simpa using hq
    have HD := Lib.hid (show decide (ar = 1) = true from decide_eq_true hq)
    clear hq
    have HB1 := Lib.hid (Below.refl w.heap.size w)
    have HF2 := Lib.hid (blk_new w (.cells #[.slice A n c, .slice A2 n2 c2, .int .i64 ar, .bool go, .int .i64 op] 35 (0, 0)))
    have HB3 := Lib.hid (HB1.out.alloc HB1.out.size (.cells #[.slice A n c, .slice A2 n2 c2, .int .i64 ar, .bool go, .int .i64 op] 35 (0, 0)))
    clear HB1
    have HF4 := Lib.hid (blk_alloc HF2.out (.cells #[.slice none 0 0, .slice none 0 0, .int .i64 0, .bool false, .int .i64 0] 35 (0, 0)))
    clear HF2
    have HF5 : Hid (((w.alloc (.cells #[.slice A n c, .slice A2 n2 c2, .int .i64 ar, .bool go, .int .i64 op] 35 (0, 0))).alloc (.cells #[.slice none 0 0, .slice none 0 0, .int .i64 0, .bool false, .int .i64 0] 35 (0, 0))).heap[w.heap.size + 1]? = some (.cells #[.slice none 0 0, .slice none 0 0, .int .i64 0, .bool false, .int .i64 0] 35 (0, 0))) := Lib.hid (blk_newN (W := (w.alloc (.cells #[.slice A n c, .slice A2 n2 c2, .int .i64 ar, .bool go, .int .i64 op] 35 (0, 0)))) (o := (.cells #[.slice none 0 0, .slice none 0 0, .int .i64 0, .bool false, .int .i64 0] 35 (0, 0))) (by simp))
    have HB6 := Lib.hid (HB3.out.alloc (by have := HB3.out.size; simp at this ⊢ <;> omega) (.cells #[.slice none 0 0, .slice none 0 0, .int .i64 0, .bool false, .int .i64 0] 35 (0, 0)))
    clear HB3
    obtain ⟨v, hv⟩ : ∃ v, v = ((w.alloc (.cells #[.slice A n c, .slice A2 n2 c2, .int .i64 ar, .bool go, .int .i64 op] 35 (0, 0))).alloc (.cells #[.slice none 0 0, .slice none 0 0, .int .i64 0, .bool false, .int .i64 0] 35 (0, 0))) := ⟨_, rfl⟩
    have HVv := Lib.hid hv
    rw [← hv] at HF4 HF5 HB6
    clear hv
    go_enter Try.func84, Try.ntmps84
    go_upto_region 1 with (fail)
    rw [← HVv.out]
    have hc7 : v.cell? ⟨w.heap.size, 2, none⟩ = some (.int .i64 ar) := by rw [cell_of_row _ _ _ _ _ _ HF4.out]; rfl
    have hc8 : v.cell? ⟨w.heap.size, 3, none⟩ = some (.bool go) := by rw [cell_of_row _ _ _ _ _ _ HF4.out]; rfl
    have hz9 : v.frozen? ⟨w.heap.size, 2, none⟩ = false := frozen_of_row _ _ _ _ _ HF4.out
    have hz10 : v.frozen? ⟨w.heap.size, 3, none⟩ = false := frozen_of_row _ _ _ _ _ HF4.out
    go_upto_region 4 with (fail)
    clear hc7 hc8 hz9 hz10
    have HKK11 := Lib.hid (((KK.refl [w.heap.size] v).set (b := w.heap.size) (by simp) 2 (.int .i64 0)).set (b := w.heap.size) (by simp) 3 (.bool true))
    have HF12 := Lib.hid (show ((v.setCell ⟨w.heap.size, 2, none⟩ (.int .i64 0)).setCell ⟨w.heap.size, 3, none⟩ (.bool true)).heap[w.heap.size]? = some (.cells #[.slice A n c, .slice A2 n2 c2, .int .i64 0, .bool true, .int .i64 op] 35 (0, 0)) by have q := heap_setCell_at (i := 3) (u := .bool true) (heap_setCell_at (i := 2) (u := .int .i64 0) (HF4.out)); exact q)
    have HF13 := Lib.hid (HKK11.out.blk HF5.out (by simp <;> omega))
    have HB14 := Lib.hid (HKK11.out.below HB6.out (fun b hb => by obtain rfl : b = w.heap.size := (by simpa using hb); omega) HB6.out.size)
    clear HB6 HF4 HF5
    generalize ((v.setCell ⟨w.heap.size, 2, none⟩ (.int .i64 0)).setCell ⟨w.heap.size, 3, none⟩ (.bool true)) = w1 at *
    go_wp2_with (first
      | refine wpList_store_rowY rfl 35 (.tmp 2) (.tmp 9) rfl (w.heap.size + 1) #[.slice A n c, .slice A2 n2 c2, .int .i64 0, .bool true, .int .i64 op] rfl rfl 35 _ HF13.out (info_rd) rfl (by simp [Value.oneCell']) w.heap.size w HB14.out (by omega) ?_
      | refine wpList_load_row rfl 35 (.tmp 1) rfl (w.heap.size) rfl 35 #[.slice A n c, .slice A2 n2 c2, .int .i64 0, .bool true, .int .i64 op] (0, 0) _ HF12.out Try.underlying35 rfl (info_rd) ?_)
    intro w2 hbk hoth hbel _
    have HF15 := Lib.hid (blk_oth HF12.out hoth.out (by omega))
    have HF16 := Lib.hid hbk.out
    have HB17 := Lib.hid hbel.out
    clear hbk hoth hbel HB14 HF12 HF13
    go_wp2_with fail
    unfold StepP
    rw [HS.out, HD.out]
    refine bodyPost_ret (results_ctY rfl _ _ (w.heap.size + 1) #[.slice A n c, .slice A2 n2 c2, .int .i64 0, .bool true, .int .i64 op] rfl (run_loadVar_row _ (w.heap.size + 1) 35 35 _ (0, 0) _ HF16.out Try.underlying35 rfl (by kernel_rfl))) rfl ?_
    exact ⟨rfl, HB17.out⟩
  · have d1 : (ar == 1) = false := by rw [beq_eq_false_iff_ne]; exact hq
    have HS := Lib.hid (show (Ds.step ⟨SS, CC, ar, go, op⟩) = ⟨SS, CC, max (ar - 1) 0, go, op + 1⟩ by unfold Ds.step; rw [if_neg hq])
    have HD := Lib.hid (show decide (ar = 1) = false from decide_eq_false hq)
    have w2 : IntKind.i64.wrap (op + 1) = op + 1 := IntWalk.i64_in _ (by omega)
    by_cases hg : 1 < ar
    · have d2 : decide (ar > 1) = true := decide_eq_true hg
      have d3 : decide (1 < ar) = true := decide_eq_true hg
      have w1 : IntKind.i64.wrap (ar - 1) = ar - 1 := IntWalk.i64_in _ (by omega)
      have HM := Lib.hid (show max (ar - 1) 0 = ar - 1 by omega)
      clear hq
      have HB1 := Lib.hid (Below.refl w.heap.size w)
      have HF2 := Lib.hid (blk_new w (.cells #[.slice A n c, .slice A2 n2 c2, .int .i64 ar, .bool go, .int .i64 op] 35 (0, 0)))
      have HB3 := Lib.hid (HB1.out.alloc HB1.out.size (.cells #[.slice A n c, .slice A2 n2 c2, .int .i64 ar, .bool go, .int .i64 op] 35 (0, 0)))
      clear HB1
      have HF4 := Lib.hid (blk_alloc HF2.out (.cells #[.slice none 0 0, .slice none 0 0, .int .i64 0, .bool false, .int .i64 0] 35 (0, 0)))
      clear HF2
      have HF5 : Hid (((w.alloc (.cells #[.slice A n c, .slice A2 n2 c2, .int .i64 ar, .bool go, .int .i64 op] 35 (0, 0))).alloc (.cells #[.slice none 0 0, .slice none 0 0, .int .i64 0, .bool false, .int .i64 0] 35 (0, 0))).heap[w.heap.size + 1]? = some (.cells #[.slice none 0 0, .slice none 0 0, .int .i64 0, .bool false, .int .i64 0] 35 (0, 0))) := Lib.hid (blk_newN (W := (w.alloc (.cells #[.slice A n c, .slice A2 n2 c2, .int .i64 ar, .bool go, .int .i64 op] 35 (0, 0)))) (o := (.cells #[.slice none 0 0, .slice none 0 0, .int .i64 0, .bool false, .int .i64 0] 35 (0, 0))) (by simp))
      have HB6 := Lib.hid (HB3.out.alloc (by have := HB3.out.size; simp at this ⊢ <;> omega) (.cells #[.slice none 0 0, .slice none 0 0, .int .i64 0, .bool false, .int .i64 0] 35 (0, 0)))
      clear HB3
      obtain ⟨v, hv⟩ : ∃ v, v = ((w.alloc (.cells #[.slice A n c, .slice A2 n2 c2, .int .i64 ar, .bool go, .int .i64 op] 35 (0, 0))).alloc (.cells #[.slice none 0 0, .slice none 0 0, .int .i64 0, .bool false, .int .i64 0] 35 (0, 0))) := ⟨_, rfl⟩
      have HVv := Lib.hid hv
      rw [← hv] at HF4 HF5 HB6
      clear hv
      go_enter Try.func84, Try.ntmps84
      go_upto_region 1 with (fail)
      rw [← HVv.out]
      have hc7 : v.cell? ⟨w.heap.size, 2, none⟩ = some (.int .i64 ar) := by rw [cell_of_row _ _ _ _ _ _ HF4.out]; rfl
      have hc8 : v.cell? ⟨w.heap.size, 4, none⟩ = some (.int .i64 op) := by rw [cell_of_row _ _ _ _ _ _ HF4.out]; rfl
      have hz9 : v.frozen? ⟨w.heap.size, 2, none⟩ = false := frozen_of_row _ _ _ _ _ HF4.out
      have hz10 : v.frozen? ⟨w.heap.size, 4, none⟩ = false := frozen_of_row _ _ _ _ _ HF4.out
      go_upto_region 8 with (fail)
      clear hc7 hc8 hz9 hz10
      have HKK11 := Lib.hid (((KK.refl [w.heap.size] v).set (b := w.heap.size) (by simp) 2 (.int .i64 (ar - 1))).set (b := w.heap.size) (by simp) 4 (.int .i64 (op + 1)))
      have HF12 := Lib.hid (show ((v.setCell ⟨w.heap.size, 2, none⟩ (.int .i64 (ar - 1))).setCell ⟨w.heap.size, 4, none⟩ (.int .i64 (op + 1))).heap[w.heap.size]? = some (.cells #[.slice A n c, .slice A2 n2 c2, .int .i64 (ar - 1), .bool go, .int .i64 (op + 1)] 35 (0, 0)) by have q := heap_setCell_at (i := 4) (u := .int .i64 (op + 1)) (heap_setCell_at (i := 2) (u := .int .i64 (ar - 1)) (HF4.out)); exact q)
      have HF13 := Lib.hid (HKK11.out.blk HF5.out (by simp <;> omega))
      have HB14 := Lib.hid (HKK11.out.below HB6.out (fun b hb => by obtain rfl : b = w.heap.size := (by simpa using hb); omega) HB6.out.size)
      clear HB6 HF4 HF5
      generalize ((v.setCell ⟨w.heap.size, 2, none⟩ (.int .i64 (ar - 1))).setCell ⟨w.heap.size, 4, none⟩ (.int .i64 (op + 1))) = w1 at *
      go_wp2_with (first
        | refine wpList_store_rowY rfl 35 (.tmp 2) (.tmp 21) rfl (w.heap.size + 1) #[.slice A n c, .slice A2 n2 c2, .int .i64 (ar - 1), .bool go, .int .i64 (op + 1)] rfl rfl 35 _ HF13.out (info_rd) rfl (by simp [Value.oneCell']) w.heap.size w HB14.out (by omega) ?_
        | refine wpList_load_row rfl 35 (.tmp 1) rfl (w.heap.size) rfl 35 #[.slice A n c, .slice A2 n2 c2, .int .i64 (ar - 1), .bool go, .int .i64 (op + 1)] (0, 0) _ HF12.out Try.underlying35 rfl (info_rd) ?_)
      intro w2 hbk hoth hbel _
      have HF15 := Lib.hid (blk_oth HF12.out hoth.out (by omega))
      have HF16 := Lib.hid hbk.out
      have HB17 := Lib.hid hbel.out
      clear hbk hoth hbel HB14 HF12 HF13
      go_wp2_with fail
      unfold StepP
      rw [HS.out, HD.out, HM.out]
      refine bodyPost_ret (results_ctY rfl _ _ (w.heap.size + 1) #[.slice A n c, .slice A2 n2 c2, .int .i64 (ar - 1), .bool go, .int .i64 (op + 1)] rfl (run_loadVar_row _ (w.heap.size + 1) 35 35 _ (0, 0) _ HF16.out Try.underlying35 rfl (by kernel_rfl))) rfl ?_
      exact ⟨rfl, HB17.out⟩
    · have d2 : decide (ar > 1) = false := decide_eq_false hg
      have d3 : decide (1 < ar) = false := decide_eq_false hg
      have HM := Lib.hid (show max (ar - 1) 0 = ar by omega)
      clear hq
      have HB1 := Lib.hid (Below.refl w.heap.size w)
      have HF2 := Lib.hid (blk_new w (.cells #[.slice A n c, .slice A2 n2 c2, .int .i64 ar, .bool go, .int .i64 op] 35 (0, 0)))
      have HB3 := Lib.hid (HB1.out.alloc HB1.out.size (.cells #[.slice A n c, .slice A2 n2 c2, .int .i64 ar, .bool go, .int .i64 op] 35 (0, 0)))
      clear HB1
      have HF4 := Lib.hid (blk_alloc HF2.out (.cells #[.slice none 0 0, .slice none 0 0, .int .i64 0, .bool false, .int .i64 0] 35 (0, 0)))
      clear HF2
      have HF5 : Hid (((w.alloc (.cells #[.slice A n c, .slice A2 n2 c2, .int .i64 ar, .bool go, .int .i64 op] 35 (0, 0))).alloc (.cells #[.slice none 0 0, .slice none 0 0, .int .i64 0, .bool false, .int .i64 0] 35 (0, 0))).heap[w.heap.size + 1]? = some (.cells #[.slice none 0 0, .slice none 0 0, .int .i64 0, .bool false, .int .i64 0] 35 (0, 0))) := Lib.hid (blk_newN (W := (w.alloc (.cells #[.slice A n c, .slice A2 n2 c2, .int .i64 ar, .bool go, .int .i64 op] 35 (0, 0)))) (o := (.cells #[.slice none 0 0, .slice none 0 0, .int .i64 0, .bool false, .int .i64 0] 35 (0, 0))) (by simp))
      have HB6 := Lib.hid (HB3.out.alloc (by have := HB3.out.size; simp at this ⊢ <;> omega) (.cells #[.slice none 0 0, .slice none 0 0, .int .i64 0, .bool false, .int .i64 0] 35 (0, 0)))
      clear HB3
      obtain ⟨v, hv⟩ : ∃ v, v = ((w.alloc (.cells #[.slice A n c, .slice A2 n2 c2, .int .i64 ar, .bool go, .int .i64 op] 35 (0, 0))).alloc (.cells #[.slice none 0 0, .slice none 0 0, .int .i64 0, .bool false, .int .i64 0] 35 (0, 0))) := ⟨_, rfl⟩
      have HVv := Lib.hid hv
      rw [← hv] at HF4 HF5 HB6
      clear hv
      go_enter Try.func84, Try.ntmps84
      go_upto_region 1 with (fail)
      rw [← HVv.out]
      have hc7 : v.cell? ⟨w.heap.size, 2, none⟩ = some (.int .i64 ar) := by rw [cell_of_row _ _ _ _ _ _ HF4.out]; rfl
      have hc8 : v.cell? ⟨w.heap.size, 4, none⟩ = some (.int .i64 op) := by rw [cell_of_row _ _ _ _ _ _ HF4.out]; rfl
      have hz9 : v.frozen? ⟨w.heap.size, 4, none⟩ = false := frozen_of_row _ _ _ _ _ HF4.out
      go_upto_region 8 with (fail)
      clear hc7 hc8 hz9
      have HKK10 := Lib.hid ((KK.refl [w.heap.size] v).set (b := w.heap.size) (by simp) 4 (.int .i64 (op + 1)))
      have HF11 := Lib.hid (show (v.setCell ⟨w.heap.size, 4, none⟩ (.int .i64 (op + 1))).heap[w.heap.size]? = some (.cells #[.slice A n c, .slice A2 n2 c2, .int .i64 ar, .bool go, .int .i64 (op + 1)] 35 (0, 0)) by have q := heap_setCell_at (i := 4) (u := .int .i64 (op + 1)) (HF4.out); exact q)
      have HF12 := Lib.hid (HKK10.out.blk HF5.out (by simp <;> omega))
      have HB13 := Lib.hid (HKK10.out.below HB6.out (fun b hb => by obtain rfl : b = w.heap.size := (by simpa using hb); omega) HB6.out.size)
      clear HB6 HF4 HF5
      generalize (v.setCell ⟨w.heap.size, 4, none⟩ (.int .i64 (op + 1))) = w1 at *
      go_wp2_with (first
        | refine wpList_store_rowY rfl 35 (.tmp 2) (.tmp 21) rfl (w.heap.size + 1) #[.slice A n c, .slice A2 n2 c2, .int .i64 ar, .bool go, .int .i64 (op + 1)] rfl rfl 35 _ HF12.out (info_rd) rfl (by simp [Value.oneCell']) w.heap.size w HB13.out (by omega) ?_
        | refine wpList_load_row rfl 35 (.tmp 1) rfl (w.heap.size) rfl 35 #[.slice A n c, .slice A2 n2 c2, .int .i64 ar, .bool go, .int .i64 (op + 1)] (0, 0) _ HF11.out Try.underlying35 rfl (info_rd) ?_)
      intro w2 hbk hoth hbel _
      have HF14 := Lib.hid (blk_oth HF11.out hoth.out (by omega))
      have HF15 := Lib.hid hbk.out
      have HB16 := Lib.hid hbel.out
      clear hbk hoth hbel HB13 HF11 HF12
      go_wp2_with fail
      unfold StepP
      rw [HS.out, HD.out, HM.out]
      refine bodyPost_ret (results_ctY rfl _ _ (w.heap.size + 1) #[.slice A n c, .slice A2 n2 c2, .int .i64 ar, .bool go, .int .i64 (op + 1)] rfl (run_loadVar_row _ (w.heap.size + 1) 35 35 _ (0, 0) _ HF15.out Try.underlying35 rfl (by kernel_rfl))) rfl ?_
      exact ⟨rfl, HB16.out⟩
set_option maxRecDepth 100000 in
theorem rkept_any (A : Option Addr) (n c : Nat) (ks : List Int) (k : Int) (w : World) (h : RdX inC 1 w A n ks) (hn : n ≤ maxLen) :
    Calls Try.prog 106 #[.slice A n c, .int .i64 k] w fun e w' => e = .returned (.bool (ks.any fun x => x == k)) ∧ w = w' := by
  have H := Lib.hid h
  have hn1 : n ≤ 9223372036854775807 := Nat.le_trans hn (by decide)
  clear h hn
  go_enter Try.func106, Try.ntmps106
  go_wp2_with fail
  go_loop [5] (fun i => ∃ j : Nat, i = .int .i64 (j : Int) ∧ j ≤ n ∧ Hid ((ks.take j).any (fun x => x == k) = false)) (fun i => n - (intOf i).toNat)
  case atStart => exact ⟨0, rfl, Nat.zero_le _, Lib.hid rfl⟩
  case round =>
    obtain ⟨j, rfl, hj, HN⟩ := hrel
    by_cases hlt : j < n
    · have hd1 : decide ((j : Int) < (n : Int)) = true := decide_eq_true (by omega)
      have hi0 : (0 : Int) ≤ (j : Int) := by omega
      obtain ⟨b, off, hl2, rfl, hbb, hcell⟩ := H.out.at hlt
      have c0 := hcell 0 (.int .i64 ks[j]) rfl
      rw [Nat.mul_one, Nat.add_zero] at c0
      have HT := Lib.hid (any_snocF (fun x => x == k) ks j hl2)
      have HA := Lib.hid (any_at (fun x => x == k) ks j hl2)
      obtain ⟨x, hx⟩ : ∃ x, x = ks[j] := ⟨_, rfl⟩
      rw [← hx] at c0 HT HA
      clear hcell hx
      cases hz : (x == k) with
      | true =>
        have HR := Lib.hid (HA.out hz)
        clear HT HA
        go_wp2_with fail
        go_ret
        exact ⟨dk_retB HR.out.symm, rfl⟩
      | false =>
        have HT2 := Lib.hid (show (ks.take (j + 1)).any (fun x => x == k) = false by rw [HT.out, HN.out, hz]; rfl)
        clear HT HA
        go_wp2_with fail
        go_round
        case rel => exact ⟨j + 1, by go_num, by omega, HT2⟩
        case measure => simp [intOf] <;> omega
    · have hd1 : decide ((j : Int) < (n : Int)) = false := decide_eq_false (by omega)
      have HE := Lib.hid (show ks.take j = ks from List.take_of_length_le (by have := H.out.1; omega))
      have HR := Lib.hid (show false = ks.any (fun x => x == k) by rw [← HE.out]; exact HN.out.symm)
      clear HN
      go_wp2_with fail
      go_ret
      exact ⟨dk_retB HR.out, rfl⟩
end Go.Proofs.Ytiagbadnmkeokaa

namespace Go.Proofs.Ytiagbadnmkeokaa
open Go.RowKit Vi

theorem shwL_take (i : Int) (CC : List Wr) (k : Nat) (hk : k < CC.length) (s : ByteArray) : shwL i (CC.take (k + 1)) s = if CC[k].1 = i then CC[k].2 else shwL i (CC.take k) s := by
  rw [List.take_succ_eq_append_getElem hk, shwL_snoc]
set_option maxRecDepth 100000 in
set_option maxHeartbeats 1000000 in
theorem rshows_any (A : Option Addr) (n c : Nat) (A2 : Option Addr) (n2 c2 : Nat) (SS : List ByteArray) (CC : List Wr) (i : Int) (w : World) (h2 : RdX stC 1 w A n SS) (h3 : RdX wrC 2 w A2 n2 CC) (hi : 0 ≤ i ∧ i < (n : Int)) (hc : n2 ≤ 100000) :
    Calls Try.prog 85 #[.agg #[.slice A n c, .slice A2 n2 c2], .int .i64 i] w fun e w' => e = .returned (.string (shw SS CC i)) ∧ Below w.heap.size w w' := by
  obtain ⟨hi0, hi1⟩ := hi
  obtain ⟨j, rfl⟩ : ∃ j : Nat, i = (j : Int) := ⟨i.toNat, by omega⟩
  have hj : j < n := by omega
  have HB0 := Lib.hid ((Below.refl w.heap.size w).alloc (Nat.le_refl _) (.cells #[.slice A n c, .slice A2 n2 c2] 32 (0, 0)))
  have HX0 := Lib.hid (blk_new w (.cells #[.slice A n c, .slice A2 n2 c2] 32 (0, 0)))
  have H2 := Lib.hid (h2.below HB0.out)
  have H3 := Lib.hid (h3.below HB0.out)
  obtain ⟨v, hv⟩ : ∃ v, v = w.alloc (.cells #[.slice A n c, .slice A2 n2 c2] 32 (0, 0)) := ⟨_, rfl⟩
  have HV := Lib.hid hv
  rw [← hv] at HB0 HX0 H2 H3
  clear hv h2 h3
  go_enter Try.func85, Try.ntmps85
  go_upto_region 1 with (fail)
  rw [← HV.out]
  obtain ⟨b, off, hl, rfl, _, hcell⟩ := H2.out.at hj
  have c0 := hcell 0 (.string SS[j]) rfl
  rw [Nat.mul_one, Nat.add_zero] at c0
  have HS := Lib.hid (show (SS[((j : Int)).toNat]?).getD ⟨#[]⟩ = SS[j] by simp [hl])
  obtain ⟨s0, hs0⟩ : ∃ s0, s0 = SS[j] := ⟨_, rfl⟩
  rw [← hs0] at c0 HS
  have x0 : v.cell? ⟨w.heap.size, 0, none⟩ = some (.slice (some ⟨b, off, none⟩) n c) := (cell_of_row _ _ 0 _ _ _ HX0.out).trans rfl
  have x1 : v.cell? ⟨w.heap.size, 1, none⟩ = some (.slice A2 n2 c2) := (cell_of_row _ _ 1 _ _ _ HX0.out).trans rfl
  clear hcell hs0 hi0
  go_wp2_with fail
  clear c0
  go_loop [5, 6] (fun s i => ∃ k : Nat, s = .string (shwL (j : Int) (CC.take k) s0) ∧ i = .int .i64 (k : Int) ∧ k ≤ n2) (fun _ i => n2 - (intOf i).toNat)
  case atStart => exact ⟨0, rfl, rfl, Nat.zero_le _⟩
  case round =>
    obtain ⟨k, rfl, rfl, hk⟩ := hrel
    obtain ⟨t, ht⟩ : ∃ t, t = shwL (j : Int) (CC.take k) s0 := ⟨_, rfl⟩
    rw [← ht]
    have HT0 := Lib.hid ht
    clear ht
    by_cases hlt : k < n2
    · have hd1 : decide ((k : Int) < (n2 : Int)) = true := decide_eq_true (by omega)
      have hi0 : (0 : Int) ≤ (k : Int) := by omega
      obtain ⟨b2, off2, hl2, rfl, _, hcell⟩ := H3.out.at hlt
      have y0 := hcell 0 (.int .i64 CC[k].1) rfl
      have y1 := hcell 1 (.string CC[k].2) rfl
      rw [Nat.add_zero] at y0
      have HT := Lib.hid (shwL_take (j : Int) CC k hl2 s0)
      obtain ⟨x, hx⟩ : ∃ x, x = CC[k] := ⟨_, rfl⟩
      rw [← hx] at y0 y1 HT
      clear hcell hx
      obtain ⟨at0, s⟩ := x
      by_cases hq : at0 = (j : Int)
      · have d1 : (at0 == (j : Int)) = true := by simpa using hq
        have HT2 := Lib.hid (show shwL (j : Int) (CC.take (k + 1)) s0 = s by rw [HT.out, if_pos hq])
        clear HT hq
        go_wp2_with fail
        go_round
        case rel => exact ⟨k + 1, by rw [HT2.out], by go_num, by omega⟩
        case measure => simp [intOf] <;> omega
      · have d1 : (at0 == (j : Int)) = false := by rw [beq_eq_false_iff_ne]; exact hq
        have HT2 := Lib.hid (show shwL (j : Int) (CC.take (k + 1)) s0 = t by rw [HT.out, if_neg hq, HT0.out])
        clear HT hq
        go_wp2_with fail
        go_round
        case rel => exact ⟨k + 1, by rw [HT2.out], by go_num, by omega⟩
        case measure => simp [intOf] <;> omega
    · have hd1 : decide ((k : Int) < (n2 : Int)) = false := decide_eq_false (by omega)
      have HE := Lib.hid (show shw SS CC (j : Int) = t by rw [HT0.out, List.take_of_length_le (by have := H3.out.1; omega)]; unfold shw; rw [HS.out])
      clear HT0
      go_wp2_with fail
      go_ret
      exact ⟨by rw [HE.out]; rfl, HB0.out⟩
/-- all are kept -/
def allK : Nat → Bool := fun _ => true
theorem info_im : (Try.prog.info? 32).map (·.size) = some 2 := by kernel_rfl
/-- the sectors that are safe then, and no cache -/
def DoneP (SS : List ByteArray) (w : World) (e : Ending) (w' : World) : Prop := ∃ A n c, e = .returned (.agg #[.slice A n c, .slice none 0 0]) ∧ OwX stC 1 9 w' w.heap.size (.slice A n c) SS ∧ Below w.heap.size w w'
set_option maxRecDepth 100000 in
set_option maxHeartbeats 4000000 in
theorem rdone_all (A : Option Addr) (n c : Nat) (A2 : Option Addr) (n2 c2 : Nat) (L : Value) (SS : List ByteArray) (CC : List Wr) (w : World) (h2 : RdX stC 1 w A n SS) (h3 : RdX wrC 2 w A2 n2 CC) (hok : ∀ x ∈ CC, 0 ≤ x.1 ∧ x.1 < (SS.length : Int) ∧ x.2.size = 128) (hs : n ≤ 100000) (hc : n2 ≤ 100000) :
    Calls Try.prog 86 #[.agg #[.slice A n c, .slice A2 n2 c2], .bool true, L] w (DoneP (setP allK 0 CC SS) w) := by
  have H4 := Lib.hid hok
  have HL := Lib.hid h3.1
  clear hok
  have HB1 := Lib.hid (Below.refl w.heap.size w)
  have HF2 := Lib.hid (blk_new w (.cells #[.slice A n c, .slice A2 n2 c2] 32 (0, 0)))
  have HB3 := Lib.hid (HB1.out.alloc HB1.out.size (.cells #[.slice A n c, .slice A2 n2 c2] 32 (0, 0)))
  clear HB1
  have HF4 := Lib.hid (blk_alloc HF2.out (.cells #[.slice none 0 0, .slice none 0 0] 32 (0, 0)))
  clear HF2
  have HF5 : Hid (((w.alloc (.cells #[.slice A n c, .slice A2 n2 c2] 32 (0, 0))).alloc (.cells #[.slice none 0 0, .slice none 0 0] 32 (0, 0))).heap[w.heap.size + 1]? = some (.cells #[.slice none 0 0, .slice none 0 0] 32 (0, 0))) := Lib.hid (blk_newN (W := (w.alloc (.cells #[.slice A n c, .slice A2 n2 c2] 32 (0, 0)))) (o := (.cells #[.slice none 0 0, .slice none 0 0] 32 (0, 0))) (by simp))
  have HB6 := Lib.hid (HB3.out.alloc (by have := HB3.out.size; simp at this ⊢ <;> omega) (.cells #[.slice none 0 0, .slice none 0 0] 32 (0, 0)))
  clear HB3
  obtain ⟨v, hv⟩ : ∃ v, v = ((w.alloc (.cells #[.slice A n c, .slice A2 n2 c2] 32 (0, 0))).alloc (.cells #[.slice none 0 0, .slice none 0 0] 32 (0, 0))) := ⟨_, rfl⟩
  have HVv := Lib.hid hv
  rw [← hv] at HF4 HF5 HB6
  clear hv
  have HCP := Lib.hid (rcopy_any A n c A2 n2 c2 SS CC v (h2.below HB6.out) (h3.below HB6.out) hs hc)
  clear h2 h3
  go_enter Try.func86, Try.ntmps86
  go_upto_region 1 with (fail)
  rw [← HVv.out]
  go_wp2_with (refine wpList_load_row rfl 32 (.tmp 3) rfl (w.heap.size) rfl 32 #[.slice A n c, .slice A2 n2 c2] (0, 0) _ HF4.out Try.underlying32 rfl (info_im) ?_)
  refine (HCP.out).mono ?_
  rintro e w1 ⟨B1, n1, k1, B2, n3, k2, rfl, ho1, ho2, hb1⟩
  have HF7 := Lib.hid (blk_below HF4.out hb1)
  have HF8 := Lib.hid (blk_below HF5.out hb1)
  have HB9 := Lib.hid (HB6.out.trans (hb1.mono HB6.out.size))
  have HO0 := Lib.hid (ho1.mono (B' := w.heap.size) HB6.out.size)
  have HQ0 := Lib.hid (ho2.mono (B' := w.heap.size) HB6.out.size)
  clear hb1 HB6 HF4 HF5
  clear HCP ho1 ho2
  obtain ⟨_, _, e, _, _, _⟩ := HQ0.out.rd wrC_len
  injection e with e1 e2 e3
  subst e2
  clear e1 e3
  go_wp2_with (first
    | refine wpList_store_rowY rfl 32 (.tmp 3) (.tmp 9) rfl (w.heap.size) #[.slice B1 n1 k1, .slice B2 CC.length k2] rfl rfl 32 _ HF7.out (info_im) rfl (by simp [Value.oneCell']) w.heap.size w HB9.out (by omega) ?_)
  intro w2 hbk hoth hbel _
  have HO10 := Lib.hid (HO0.out.oth hoth.out HF7.out (by decide))
  have HQ11 := Lib.hid (HQ0.out.oth hoth.out HF7.out (by decide))
  have HF12 := Lib.hid hbk.out
  have HF13 := Lib.hid (blk_oth HF8.out hoth.out (by omega))
  have HB14 := Lib.hid hbel.out
  clear hbk hoth hbel HB9 HF7 HF8
  go_wp2_with fail
  have hcl : CC.length ≤ 100000 := by have := HL.out; omega
  go_loopw [7] (fun i wr => ∃ k : Nat, i = .int .i64 (k : Int) ∧ k ≤ CC.length ∧ wr.heap[w.heap.size]? = some (.cells #[.slice B1 n1 k1, .slice B2 CC.length k2] 32 (0, 0)) ∧ wr.heap[w.heap.size + 1]? = some (.cells #[.slice none 0 0, .slice none 0 0] 32 (0, 0)) ∧ OwX stC 1 9 wr w.heap.size (.slice B1 n1 k1) (setP allK 0 (CC.take k) SS) ∧ OwX wrC 2 91 wr w.heap.size (.slice B2 CC.length k2) CC ∧ Below w.heap.size w wr) (fun i _ => CC.length - (intOf i).toNat)
  case atStart => exact ⟨0, rfl, Nat.zero_le _, HF12.out, HF13.out, HO10.out, HQ11.out, HB14.out⟩
  case round =>
    obtain ⟨k, rfl, hk, hx, hr, ho, hq, hb⟩ := hrel
    have HX := Lib.hid hx
    have HR := Lib.hid hr
    have HO := Lib.hid ho
    have HQ := Lib.hid hq
    have HB := Lib.hid hb
    clear hx hr ho hq hb
    have x0 : wr.cell? ⟨w.heap.size, 0, none⟩ = some (.slice B1 n1 k1) := (cell_of_row _ _ 0 _ _ _ HX.out).trans rfl
    have x1 : wr.cell? ⟨w.heap.size, 1, none⟩ = some (.slice B2 CC.length k2) := (cell_of_row _ _ 1 _ _ _ HX.out).trans rfl
    by_cases hlt : k < CC.length
    · have hd1 : decide ((k : Int) < (CC.length : Int)) = true := decide_eq_true (by omega)
      have hi0 : (0 : Int) ≤ (k : Int) := by omega
      obtain ⟨A', c', e, hrd, _, _⟩ := HQ.out.rd wrC_len
      injection e with e1 e2 e3
      subst e1 e3
      obtain ⟨b, off, hl, rfl, hbb, hcell⟩ := hrd.at hlt
      have y0 := hcell 0 (.int .i64 CC[k].1) rfl
      have y1 := hcell 1 (.string CC[k].2) rfl
      rw [Nat.add_zero] at y0
      have HT0 := Lib.hid (show setP allK 0 (CC.take (k + 1)) SS = if allK k = true then (setP allK 0 (CC.take k) SS).set CC[k].1.toNat CC[k].2 else setP allK 0 (CC.take k) SS by rw [List.take_succ_eq_append_getElem hl, setP_snoc, Nat.zero_add, List.length_take, Nat.min_eq_left (Nat.le_of_lt hl)])
      obtain ⟨q1, q2, _⟩ := H4.out CC[k] (List.getElem_mem hl)
      obtain ⟨x, hx⟩ : ∃ x, x = CC[k] := ⟨_, rfl⟩
      rw [← hx] at y0 y1 HT0 q1 q2
      clear hx hcell hrd e2
      obtain ⟨at0, s⟩ := x
      have q1 : 0 ≤ at0 := q1
      have q2 : at0 < (SS.length : Int) := q2
      obtain ⟨j, rfl⟩ : ∃ j : Nat, at0 = (j : Int) := ⟨at0.toNat, by omega⟩
      have hj : j < (setP allK 0 (CC.take k) SS).length := by rw [setP_len]; omega
      have hn1 : n1 = (setP allK 0 (CC.take k) SS).length := by
        obtain ⟨_, _, e, _, _, _⟩ := HO.out.rd stC_len
        injection e
      have hj0 : (0 : Int) ≤ (j : Int) := by omega
      have hj1 : (j : Int) < (n1 : Int) := by omega
      clear q1 q2
      obtain ⟨T, hT⟩ : ∃ T, T = setP allK 0 (CC.take k) SS := ⟨_, rfl⟩
      rw [← hT] at HT0 HO hj hn1
      clear hT hn1
      have HT := Lib.hid (show setP allK 0 (CC.take (k + 1)) SS = T.set j s by rw [HT0.out]; exact if_pos rfl)
      clear HT0
      go_upto_region 6 with (fail)
      have hrow := HO.out
      rcases hrow with ⟨_, ⟨_, h0⟩ | ⟨gg, cap, cur, e, hg, hheap, _⟩⟩
      · omega
      injection e with e1 e2 e3
      subst e1 e3
      have HG := Lib.hid hheap
      have hgm : w.heap.size ≤ gg := hg
      have hne : ¬ b = gg := fun e => by
        subst e
        rcases HQ.out.2 with ⟨q, _⟩ | ⟨g2, _, _, q, _, h4, _⟩
        · cases q
        · injection q with q _ _
          injection q with q
          injection q with q _ _
          subst q
          rw [hheap] at h4
          cases h4
      have hnx : ¬ w.heap.size = gg := fun e => by
        subst e
        have q := HX.out
        rw [hheap] at q
        cases q
      have hnr : ¬ w.heap.size + 1 = gg := fun e => by
        subst e
        have q := HR.out
        rw [hheap] at q
        cases q
      obtain ⟨A3_, c3_, e, hr2, _, _⟩ := HO.out.rd stC_len
      injection e with e4 e5 e6
      subst e4
      have hck : wr.cell? ⟨gg, j, none⟩ = some (.string T[j]) := by
        obtain ⟨b2, off2, hb2, _, hc2⟩ := hr2.2 (by omega)
        injection hb2 with hb2
        injection hb2 with hb3 hb4
        subst hb3 hb4
        have q := hc2 j T[j] 0 (.string T[j]) (List.getElem?_eq_getElem hj) rfl
        rw [Nat.zero_add, Nat.mul_one, Nat.add_zero] at q
        exact q
      obtain ⟨o, ho⟩ : ∃ o, o = T[j] := ⟨_, rfl⟩
      rw [← ho] at hck
      clear hr2 hheap hg ho e2 e5 e6
      refine wp_region_L_drew (S := fun _ W => W.heap[w.heap.size]? = some (.cells #[.slice (some ⟨gg, 0, none⟩) n1 k1, .slice (some ⟨b, off, none⟩) CC.length k2] 32 (0, 0)) ∧ W.cell? ⟨b, off + k * 2, none⟩ = some (.int .i64 (j : Int)) ∧ W.cell? ⟨b, off + k * 2 + 1, none⟩ = some (.string s)) (by kernel_rfl) ⟨HX.out, y0, y1⟩ (fun hS hC => ?_)
      refine wpAnyL_take (i := 0) (oi := { dst := some 23, op := .fieldAddr 32 (.tmp 3) 0, type := _, pos := _, after := _, guard := none }) (v := ?_) rfl (by kernel_rfl) (by kernel_rfl) (by kernel_rfl) (fun _ _ _ h => h) (fun _ _ => Iff.rfl) hC (Or.inl ⟨by rfl, ?_⟩) hS (fun hC hS => ?_)
      rotate_left
      · intro W9 hSw; skip; go_simp; try (with_reducible rfl)
      try simp only [Act.put, List.setIfInBounds_toArray, List.set_cons_zero, List.set_cons_succ]
      refine wpAnyL_take (i := 1) (oi := { dst := some 24, op := .load 29 (.tmp 23), type := _, pos := _, after := _, guard := none }) (v := ?_) rfl (by kernel_rfl) (by kernel_rfl) (by kernel_rfl) (fun _ _ _ h => h) (fun _ _ => Iff.rfl) hC (Or.inl ⟨by rfl, ?_⟩) hS (fun hC hS => ?_)
      rotate_left
      · intro W9 hSw; have q0 := (cell_of_row _ _ 0 _ _ _ hSw.choose_spec.2.2.1).trans rfl; have q1 := (cell_of_row _ _ 1 _ _ _ hSw.choose_spec.2.2.1).trans rfl; go_simp; try (with_reducible rfl)
      try simp only [Act.put, List.setIfInBounds_toArray, List.set_cons_zero, List.set_cons_succ]
      refine wpAnyL_take (i := 2) (oi := { dst := some 25, op := .fieldAddr 32 (.tmp 3) 1, type := _, pos := _, after := _, guard := none }) (v := ?_) rfl (by kernel_rfl) (by kernel_rfl) (by kernel_rfl) (fun _ _ _ h => h) (fun _ _ => Iff.rfl) hC (Or.inl ⟨by rfl, ?_⟩) hS (fun hC hS => ?_)
      rotate_left
      · intro W9 hSw; skip; go_simp; try (with_reducible rfl)
      try simp only [Act.put, List.setIfInBounds_toArray, List.set_cons_zero, List.set_cons_succ]
      refine wpAnyL_take (i := 3) (oi := { dst := some 26, op := .load 30 (.tmp 25), type := _, pos := _, after := _, guard := none }) (v := ?_) rfl (by kernel_rfl) (by kernel_rfl) (by kernel_rfl) (fun _ _ _ h => h) (fun _ _ => Iff.rfl) hC (Or.inl ⟨by rfl, ?_⟩) hS (fun hC hS => ?_)
      rotate_left
      · intro W9 hSw; have q1 := (cell_of_row _ _ 1 _ _ _ hSw.choose_spec.2.2.1).trans rfl; go_simp; try (with_reducible rfl)
      try simp only [Act.put, List.setIfInBounds_toArray, List.set_cons_zero, List.set_cons_succ]
      refine wpAnyL_take (i := 4) (oi := { dst := some 27, op := .move (.tmp 7), type := _, pos := _, after := _, guard := none }) (v := ?_) rfl (by kernel_rfl) (by kernel_rfl) (by kernel_rfl) (fun _ _ _ h => h) (fun _ _ => Iff.rfl) hC (Or.inl ⟨by rfl, ?_⟩) hS (fun hC hS => ?_)
      rotate_left
      · intro W9 hSw; skip; go_simp; try (with_reducible rfl)
      try simp only [Act.put, List.setIfInBounds_toArray, List.set_cons_zero, List.set_cons_succ]
      refine wpAnyL_take (i := 5) (oi := { dst := some 28, op := .indexAddr 30 (.tmp 26) (.tmp 27), type := _, pos := _, after := _, guard := none }) (v := ?_) rfl (by kernel_rfl) (by kernel_rfl) (by kernel_rfl) (fun _ _ _ h => h) (fun _ _ => Iff.rfl) hC (Or.inl ⟨by rfl, ?_⟩) hS (fun hC hS => ?_)
      rotate_left
      · intro W9 hSw; skip; go_simp; try (with_reducible rfl)
      try simp only [Act.put, List.setIfInBounds_toArray, List.set_cons_zero, List.set_cons_succ]
      refine wpAnyL_take (i := 6) (oi := { dst := some 29, op := .fieldAddr 91 (.tmp 28) 0, type := _, pos := _, after := _, guard := none }) (v := ?_) rfl (by kernel_rfl) (by kernel_rfl) (by kernel_rfl) (fun _ _ _ h => h) (fun _ _ => Iff.rfl) hC (Or.inl ⟨by rfl, ?_⟩) hS (fun hC hS => ?_)
      rotate_left
      · intro W9 hSw; skip; go_simp; try (with_reducible rfl)
      try simp only [Act.put, List.setIfInBounds_toArray, List.set_cons_zero, List.set_cons_succ]
      refine wpAnyL_take (i := 7) (oi := { dst := some 30, op := .load 3 (.tmp 29), type := _, pos := _, after := _, guard := none }) (v := ?_) rfl (by kernel_rfl) (by kernel_rfl) (by kernel_rfl) (fun _ _ _ h => h) (fun _ _ => Iff.rfl) hC (Or.inl ⟨by rfl, ?_⟩) hS (fun hC hS => ?_)
      rotate_left
      · intro W9 hSw; have q0 := hSw.choose_spec.2.2.2.1; have q1 := hSw.choose_spec.2.2.2.2; go_simp; try (with_reducible rfl)
      try simp only [Act.put, List.setIfInBounds_toArray, List.set_cons_zero, List.set_cons_succ]
      refine wpAnyL_take (i := 8) (oi := { dst := some 31, op := .fieldAddr 32 (.tmp 3) 1, type := _, pos := _, after := _, guard := none }) (v := ?_) rfl (by kernel_rfl) (by kernel_rfl) (by kernel_rfl) (fun _ _ _ h => h) (fun _ _ => Iff.rfl) hC (Or.inl ⟨by rfl, ?_⟩) hS (fun hC hS => ?_)
      rotate_left
      · intro W9 hSw; skip; go_simp; try (with_reducible rfl)
      try simp only [Act.put, List.setIfInBounds_toArray, List.set_cons_zero, List.set_cons_succ]
      refine wpAnyL_take (i := 9) (oi := { dst := some 32, op := .load 30 (.tmp 31), type := _, pos := _, after := _, guard := none }) (v := ?_) rfl (by kernel_rfl) (by kernel_rfl) (by kernel_rfl) (fun _ _ _ h => h) (fun _ _ => Iff.rfl) hC (Or.inl ⟨by rfl, ?_⟩) hS (fun hC hS => ?_)
      rotate_left
      · intro W9 hSw; have q1 := (cell_of_row _ _ 1 _ _ _ hSw.choose_spec.2.2.1).trans rfl; go_simp; try (with_reducible rfl)
      try simp only [Act.put, List.setIfInBounds_toArray, List.set_cons_zero, List.set_cons_succ]
      refine wpAnyL_take (i := 10) (oi := { dst := some 33, op := .move (.tmp 7), type := _, pos := _, after := _, guard := none }) (v := ?_) rfl (by kernel_rfl) (by kernel_rfl) (by kernel_rfl) (fun _ _ _ h => h) (fun _ _ => Iff.rfl) hC (Or.inl ⟨by rfl, ?_⟩) hS (fun hC hS => ?_)
      rotate_left
      · intro W9 hSw; skip; go_simp; try (with_reducible rfl)
      try simp only [Act.put, List.setIfInBounds_toArray, List.set_cons_zero, List.set_cons_succ]
      refine wpAnyL_take (i := 11) (oi := { dst := some 34, op := .indexAddr 30 (.tmp 32) (.tmp 33), type := _, pos := _, after := _, guard := none }) (v := ?_) rfl (by kernel_rfl) (by kernel_rfl) (by kernel_rfl) (fun _ _ _ h => h) (fun _ _ => Iff.rfl) hC (Or.inl ⟨by rfl, ?_⟩) hS (fun hC hS => ?_)
      rotate_left
      · intro W9 hSw; skip; go_simp; try (with_reducible rfl)
      try simp only [Act.put, List.setIfInBounds_toArray, List.set_cons_zero, List.set_cons_succ]
      refine wpAnyL_take (i := 12) (oi := { dst := some 35, op := .fieldAddr 91 (.tmp 34) 1, type := _, pos := _, after := _, guard := none }) (v := ?_) rfl (by kernel_rfl) (by kernel_rfl) (by kernel_rfl) (fun _ _ _ h => h) (fun _ _ => Iff.rfl) hC (Or.inl ⟨by rfl, ?_⟩) hS (fun hC hS => ?_)
      rotate_left
      · intro W9 hSw; skip; go_simp; try (with_reducible rfl)
      try simp only [Act.put, List.setIfInBounds_toArray, List.set_cons_zero, List.set_cons_succ]
      refine wpAnyL_take (i := 13) (oi := { dst := some 36, op := .load 9 (.tmp 35), type := _, pos := _, after := _, guard := none }) (v := ?_) rfl (by kernel_rfl) (by kernel_rfl) (by kernel_rfl) (fun _ _ _ h => h) (fun _ _ => Iff.rfl) hC (Or.inl ⟨by rfl, ?_⟩) hS (fun hC hS => ?_)
      rotate_left
      · intro W9 hSw; have q0 := hSw.choose_spec.2.2.2.1; have q1 := hSw.choose_spec.2.2.2.2; go_simp; try (with_reducible rfl)
      try simp only [Act.put, List.setIfInBounds_toArray, List.set_cons_zero, List.set_cons_succ]
      refine wpAnyL_take (i := 14) (oi := { dst := some 37, op := .indexAddr 29 (.tmp 24) (.tmp 30), type := _, pos := _, after := _, guard := none }) (v := ?_) rfl (by kernel_rfl) (by kernel_rfl) (by kernel_rfl) (fun _ _ _ h => h) (fun _ _ => Iff.rfl) hC (Or.inl ⟨by rfl, ?_⟩) hS (fun hC hS => ?_)
      rotate_left
      · intro W9 hSw; skip; go_simp; try (with_reducible rfl)
      try simp only [Act.put, List.setIfInBounds_toArray, List.set_cons_zero, List.set_cons_succ]
      refine wpAnyL_ready (rs := [15]) (by kernel_rfl) (by simp) hC ?_
      refine AllReadyL.cons (o := { dst := none, op := .store 9 (.tmp 37) (.tmp 36), type := _, pos := _, after := _, guard := none }) rfl (fun K9 hK => ?_) ?_
      · skip
        have y3 : wr.drew.cell? ⟨gg, j, none⟩ = some (.string o) := hck
        have f3 : wr.drew.frozen? ⟨gg, j, none⟩ = false := frozen_of_row _ _ _ _ _ (show wr.drew.heap[gg]? = _ from HG.out)
        go_simp
        have HK := Lib.hid ((KK.refl [gg] wr.drew).set (b := gg) (by simp) j (.string s))
        have HX9 := Lib.hid (HK.out.blk (show wr.drew.heap[w.heap.size]? = _ from HX.out) (by simpa using hnx))
        have HR9 := Lib.hid (HK.out.blk (show wr.drew.heap[w.heap.size + 1]? = _ from HR.out) (by simpa using hnr))
        have z0 := (World.cell?_of_block (a := ⟨b, off + k * 2, none⟩) (HK.out.block b hbb (by simpa using hne))).trans y0
        have z1 := (World.cell?_of_block (a := ⟨b, off + k * 2 + 1, none⟩) (HK.out.block b hbb (by simpa using hne))).trans y1
        have HO9 := Lib.hid (HO.out.drew.setS (i := j) s)
        have HQ9 := Lib.hid (HQ.out.drew.kkD HK.out (show wr.drew.heap[gg]? = _ from HG.out) (by decide))
        have HB9 := Lib.hid (HK.out.below HB.out.drew (fun b hb => by obtain rfl : b = gg := (by simpa using hb); exact hgm) HB.out.drew.size)
        refine hK _ _ ⟨HX9.out, z0, z1⟩ (fun hC => ?_)
        clear hK K9
        try simp only [Act.put, List.setIfInBounds_toArray, List.set_cons_zero, List.set_cons_succ]
        refine wpAnyL_done (by kernel_rfl) ?_ _
        clear x0 x1 y0 y1 y3 f3 z0 z1 hck hS
        go_wp2_with fail
        go_roundw
        case rel => exact ⟨k + 1, by go_num, by omega, HX9.out, HR9.out, by rw [HT.out]; exact HO9.out, HQ9.out, HB9.out⟩
        case measure => simp [intOf] <;> omega
      exact AllReadyL.nil
    · have hd1 : decide ((k : Int) < (CC.length : Int)) = false := decide_eq_false (by omega)
      have HO : Hid (OwX stC 1 9 wr w.heap.size (.slice B1 n1 k1) (setP allK 0 CC SS)) := Lib.hid (by have e : CC.take k = CC := List.take_of_length_le (by omega); rw [← e]; exact HO.out)
      have f0 : wr.frozen? ⟨w.heap.size, 1, none⟩ = false := frozen_of_row _ _ _ _ _ HX.out
      clear HQ
      go_upto_region 8 with (fail)
      clear x0 x1 f0
      have HKK901 := Lib.hid ((KK.refl [w.heap.size] wr).set (b := w.heap.size) (by simp) 1 (.slice none 0 0))
      have HF902 := Lib.hid (show (wr.setCell ⟨w.heap.size, 1, none⟩ (.slice none 0 0)).heap[w.heap.size]? = some (.cells #[.slice B1 n1 k1, .slice none 0 0] 32 (0, 0)) by have q := heap_setCell_at (i := 1) (u := .slice none 0 0) (HX.out); exact q)
      have HF903 := Lib.hid (HKK901.out.blk HR.out (by simp <;> omega))
      have HO904 := Lib.hid (HO.out.kkD HKK901.out HX.out (by decide))
      have HB905 := Lib.hid (HKK901.out.below HB.out (fun b hb => by obtain rfl : b = w.heap.size := (by simpa using hb); omega) HB.out.size)
      clear HB HX HR
      generalize (wr.setCell ⟨w.heap.size, 1, none⟩ (.slice none 0 0)) = w91 at *
      go_wp2_with (first
        | refine wpList_store_rowY rfl 32 (.tmp 6) (.tmp 39) rfl (w.heap.size + 1) #[.slice B1 n1 k1, .slice none 0 0] rfl rfl 32 _ HF903.out (info_im) rfl (by simp [Value.oneCell']) w.heap.size w HB905.out (by omega) ?_
        | refine wpList_load_row rfl 32 (.tmp 3) rfl (w.heap.size) rfl 32 #[.slice B1 n1 k1, .slice none 0 0] (0, 0) _ HF902.out Try.underlying32 rfl (info_im) ?_)
      intro w92 hbk hoth hbel _
      have HO906 := Lib.hid (HO904.out.oth hoth.out HF903.out (by decide))
      have HF907 := Lib.hid (blk_oth HF902.out hoth.out (by omega))
      have HF908 := Lib.hid hbk.out
      have HB909 := Lib.hid hbel.out
      clear hbk hoth hbel HB905 HF902 HF903
      go_wp2_with fail
      refine bodyPost_ret (results_cY rfl _ _ (w.heap.size + 1) #[.slice B1 n1 k1, .slice none 0 0] rfl (run_loadVar_row _ (w.heap.size + 1) 32 32 _ (0, 0) _ HF908.out Try.underlying32 rfl (by kernel_rfl))) rfl ?_
      exact ⟨B1, n1, k1, rfl, HO906.out, HB909.out⟩
set_option maxRecDepth 100000 in
set_option maxHeartbeats 4000000 in
theorem rdone_keep (A : Option Addr) (n c : Nat) (A2 : Option Addr) (n2 c2 : Nat) (A3 : Option Addr) (n3' c3 : Nat) (ks : List Int) (SS : List ByteArray) (CC : List Wr) (w : World) (h2 : RdX stC 1 w A n SS) (h3 : RdX wrC 2 w A2 n2 CC) (hk : RdX inC 1 w A3 n3' ks) (hn3 : n3' ≤ maxLen) (hok : ∀ x ∈ CC, 0 ≤ x.1 ∧ x.1 < (SS.length : Int) ∧ x.2.size = 128) (hs : n ≤ 100000) (hc : n2 ≤ 100000) :
    Calls Try.prog 86 #[.agg #[.slice A n c, .slice A2 n2 c2], .bool false, .slice A3 n3' c3] w (DoneP (setP (inK ks) 0 CC SS) w) := by
  have H4 := Lib.hid hok
  have HL := Lib.hid h3.1
  clear hok
  have HK0 := Lib.hid hk
  clear hk
  have HB1 := Lib.hid (Below.refl w.heap.size w)
  have HF2 := Lib.hid (blk_new w (.cells #[.slice A n c, .slice A2 n2 c2] 32 (0, 0)))
  have HB3 := Lib.hid (HB1.out.alloc HB1.out.size (.cells #[.slice A n c, .slice A2 n2 c2] 32 (0, 0)))
  clear HB1
  have HF4 := Lib.hid (blk_alloc HF2.out (.cells #[.slice none 0 0, .slice none 0 0] 32 (0, 0)))
  clear HF2
  have HF5 : Hid (((w.alloc (.cells #[.slice A n c, .slice A2 n2 c2] 32 (0, 0))).alloc (.cells #[.slice none 0 0, .slice none 0 0] 32 (0, 0))).heap[w.heap.size + 1]? = some (.cells #[.slice none 0 0, .slice none 0 0] 32 (0, 0))) := Lib.hid (blk_newN (W := (w.alloc (.cells #[.slice A n c, .slice A2 n2 c2] 32 (0, 0)))) (o := (.cells #[.slice none 0 0, .slice none 0 0] 32 (0, 0))) (by simp))
  have HB6 := Lib.hid (HB3.out.alloc (by have := HB3.out.size; simp at this ⊢ <;> omega) (.cells #[.slice none 0 0, .slice none 0 0] 32 (0, 0)))
  clear HB3
  obtain ⟨v, hv⟩ : ∃ v, v = ((w.alloc (.cells #[.slice A n c, .slice A2 n2 c2] 32 (0, 0))).alloc (.cells #[.slice none 0 0, .slice none 0 0] 32 (0, 0))) := ⟨_, rfl⟩
  have HVv := Lib.hid hv
  rw [← hv] at HF4 HF5 HB6
  clear hv
  have HCP := Lib.hid (rcopy_any A n c A2 n2 c2 SS CC v (h2.below HB6.out) (h3.below HB6.out) hs hc)
  clear h2 h3
  go_enter Try.func86, Try.ntmps86
  go_upto_region 1 with (fail)
  rw [← HVv.out]
  go_wp2_with (refine wpList_load_row rfl 32 (.tmp 3) rfl (w.heap.size) rfl 32 #[.slice A n c, .slice A2 n2 c2] (0, 0) _ HF4.out Try.underlying32 rfl (info_im) ?_)
  refine (HCP.out).mono ?_
  rintro e w1 ⟨B1, n1, k1, B2, n3, k2, rfl, ho1, ho2, hb1⟩
  have HF7 := Lib.hid (blk_below HF4.out hb1)
  have HF8 := Lib.hid (blk_below HF5.out hb1)
  have HB9 := Lib.hid (HB6.out.trans (hb1.mono HB6.out.size))
  have HO0 := Lib.hid (ho1.mono (B' := w.heap.size) HB6.out.size)
  have HQ0 := Lib.hid (ho2.mono (B' := w.heap.size) HB6.out.size)
  clear hb1 HB6 HF4 HF5
  clear HCP ho1 ho2
  obtain ⟨_, _, e, _, _, _⟩ := HQ0.out.rd wrC_len
  injection e with e1 e2 e3
  subst e2
  clear e1 e3
  go_wp2_with (first
    | refine wpList_store_rowY rfl 32 (.tmp 3) (.tmp 9) rfl (w.heap.size) #[.slice B1 n1 k1, .slice B2 CC.length k2] rfl rfl 32 _ HF7.out (info_im) rfl (by simp [Value.oneCell']) w.heap.size w HB9.out (by omega) ?_)
  intro w2 hbk hoth hbel _
  have HO10 := Lib.hid (HO0.out.oth hoth.out HF7.out (by decide))
  have HQ11 := Lib.hid (HQ0.out.oth hoth.out HF7.out (by decide))
  have HF12 := Lib.hid hbk.out
  have HF13 := Lib.hid (blk_oth HF8.out hoth.out (by omega))
  have HB14 := Lib.hid hbel.out
  clear hbk hoth hbel HB9 HF7 HF8
  go_wp2_with fail
  have hcl : CC.length ≤ 100000 := by have := HL.out; omega
  go_loopw [7] (fun i wr => ∃ k : Nat, i = .int .i64 (k : Int) ∧ k ≤ CC.length ∧ wr.heap[w.heap.size]? = some (.cells #[.slice B1 n1 k1, .slice B2 CC.length k2] 32 (0, 0)) ∧ wr.heap[w.heap.size + 1]? = some (.cells #[.slice none 0 0, .slice none 0 0] 32 (0, 0)) ∧ OwX stC 1 9 wr w.heap.size (.slice B1 n1 k1) (setP (inK ks) 0 (CC.take k) SS) ∧ OwX wrC 2 91 wr w.heap.size (.slice B2 CC.length k2) CC ∧ Below w.heap.size w wr) (fun i _ => CC.length - (intOf i).toNat)
  case atStart => exact ⟨0, rfl, Nat.zero_le _, HF12.out, HF13.out, HO10.out, HQ11.out, HB14.out⟩
  case round =>
    obtain ⟨k, rfl, hk, hx, hr, ho, hq, hb⟩ := hrel
    have HX := Lib.hid hx
    have HR := Lib.hid hr
    have HO := Lib.hid ho
    have HQ := Lib.hid hq
    have HB := Lib.hid hb
    clear hx hr ho hq hb
    have x0 : wr.cell? ⟨w.heap.size, 0, none⟩ = some (.slice B1 n1 k1) := (cell_of_row _ _ 0 _ _ _ HX.out).trans rfl
    have x1 : wr.cell? ⟨w.heap.size, 1, none⟩ = some (.slice B2 CC.length k2) := (cell_of_row _ _ 1 _ _ _ HX.out).trans rfl
    by_cases hlt : k < CC.length
    · have hd1 : decide ((k : Int) < (CC.length : Int)) = true := decide_eq_true (by omega)
      have hi0 : (0 : Int) ≤ (k : Int) := by omega
      obtain ⟨A', c', e, hrd, _, _⟩ := HQ.out.rd wrC_len
      injection e with e1 e2 e3
      subst e1 e3
      obtain ⟨b, off, hl, rfl, hbb, hcell⟩ := hrd.at hlt
      have y0 := hcell 0 (.int .i64 CC[k].1) rfl
      have y1 := hcell 1 (.string CC[k].2) rfl
      rw [Nat.add_zero] at y0
      have HT0 := Lib.hid (show setP (inK ks) 0 (CC.take (k + 1)) SS = if (inK ks) k = true then (setP (inK ks) 0 (CC.take k) SS).set CC[k].1.toNat CC[k].2 else setP (inK ks) 0 (CC.take k) SS by rw [List.take_succ_eq_append_getElem hl, setP_snoc, Nat.zero_add, List.length_take, Nat.min_eq_left (Nat.le_of_lt hl)])
      obtain ⟨q1, q2, _⟩ := H4.out CC[k] (List.getElem_mem hl)
      obtain ⟨x, hx⟩ : ∃ x, x = CC[k] := ⟨_, rfl⟩
      rw [← hx] at y0 y1 HT0 q1 q2
      clear hx hcell hrd e2
      obtain ⟨at0, s⟩ := x
      have q1 : 0 ≤ at0 := q1
      have q2 : at0 < (SS.length : Int) := q2
      obtain ⟨j, rfl⟩ : ∃ j : Nat, at0 = (j : Int) := ⟨at0.toNat, by omega⟩
      have hj : j < (setP (inK ks) 0 (CC.take k) SS).length := by rw [setP_len]; omega
      have hn1 : n1 = (setP (inK ks) 0 (CC.take k) SS).length := by
        obtain ⟨_, _, e, _, _, _⟩ := HO.out.rd stC_len
        injection e
      have hj0 : (0 : Int) ≤ (j : Int) := by omega
      have hj1 : (j : Int) < (n1 : Int) := by omega
      clear q1 q2
      obtain ⟨T, hT⟩ : ∃ T, T = setP (inK ks) 0 (CC.take k) SS := ⟨_, rfl⟩
      rw [← hT] at HT0 HO hj hn1
      clear hT hn1
      have HKC := Lib.hid (fun (W : World) (q : RdX inC 1 W A3 n3' ks) => rkept_any A3 n3' c3 ks (k : Int) W q hn3)
      have HKR := Lib.hid (HK0.out.below HB.out)
      obtain ⟨pb, hpb⟩ : ∃ pb, pb = inK ks k := ⟨_, rfl⟩
      have HKC : Hid (∀ (W : World), RdX inC 1 W A3 n3' ks → Calls Try.prog 106 #[.slice A3 n3' c3, .int .i64 (k : Int)] W fun e w' => e = .returned (.bool pb) ∧ W = w') := Lib.hid (fun W q => by rw [hpb]; exact HKC.out W q)
      rw [← hpb] at HT0
      clear hpb
      cases pb
      · have HT := Lib.hid (show setP (inK ks) 0 (CC.take (k + 1)) SS = T by rw [HT0.out]; simp)
        clear HT0
        go_wp2_with fail
        refine (HKC.out _ HKR.out).mono ?_
        rintro e w' ⟨rfl, rfl⟩
        go_wp2_with fail
        go_roundw
        case rel => exact ⟨k + 1, by go_num, by omega, HX.out, HR.out, by rw [HT.out]; exact HO.out, HQ.out, HB.out⟩
        case measure => simp [intOf] <;> omega
      have HT := Lib.hid (show setP (inK ks) 0 (CC.take (k + 1)) SS = T.set j s by rw [HT0.out]; simp)
      clear HT0
      go_wp2_with fail
      refine (HKC.out _ HKR.out).mono ?_
      rintro e w' ⟨rfl, rfl⟩
      go_upto_region 6 with (fail)
      have hrow := HO.out
      rcases hrow with ⟨_, ⟨_, h0⟩ | ⟨gg, cap, cur, e, hg, hheap, _⟩⟩
      · omega
      injection e with e1 e2 e3
      subst e1 e3
      have HG := Lib.hid hheap
      have hgm : w.heap.size ≤ gg := hg
      have hne : ¬ b = gg := fun e => by
        subst e
        rcases HQ.out.2 with ⟨q, _⟩ | ⟨g2, _, _, q, _, h4, _⟩
        · cases q
        · injection q with q _ _
          injection q with q
          injection q with q _ _
          subst q
          rw [hheap] at h4
          cases h4
      have hnx : ¬ w.heap.size = gg := fun e => by
        subst e
        have q := HX.out
        rw [hheap] at q
        cases q
      have hnr : ¬ w.heap.size + 1 = gg := fun e => by
        subst e
        have q := HR.out
        rw [hheap] at q
        cases q
      obtain ⟨A3_, c3_, e, hr2, _, _⟩ := HO.out.rd stC_len
      injection e with e4 e5 e6
      subst e4
      have hck : wr.cell? ⟨gg, j, none⟩ = some (.string T[j]) := by
        obtain ⟨b2, off2, hb2, _, hc2⟩ := hr2.2 (by omega)
        injection hb2 with hb2
        injection hb2 with hb3 hb4
        subst hb3 hb4
        have q := hc2 j T[j] 0 (.string T[j]) (List.getElem?_eq_getElem hj) rfl
        rw [Nat.zero_add, Nat.mul_one, Nat.add_zero] at q
        exact q
      obtain ⟨o, ho⟩ : ∃ o, o = T[j] := ⟨_, rfl⟩
      rw [← ho] at hck
      clear hr2 hheap hg ho e2 e5 e6
      refine wp_region_L_drew (S := fun _ W => W.heap[w.heap.size]? = some (.cells #[.slice (some ⟨gg, 0, none⟩) n1 k1, .slice (some ⟨b, off, none⟩) CC.length k2] 32 (0, 0)) ∧ W.cell? ⟨b, off + k * 2, none⟩ = some (.int .i64 (j : Int)) ∧ W.cell? ⟨b, off + k * 2 + 1, none⟩ = some (.string s)) (by kernel_rfl) ⟨HX.out, y0, y1⟩ (fun hS hC => ?_)
      refine wpAnyL_take (i := 0) (oi := { dst := some 23, op := .fieldAddr 32 (.tmp 3) 0, type := _, pos := _, after := _, guard := none }) (v := ?_) rfl (by kernel_rfl) (by kernel_rfl) (by kernel_rfl) (fun _ _ _ h => h) (fun _ _ => Iff.rfl) hC (Or.inl ⟨by rfl, ?_⟩) hS (fun hC hS => ?_)
      rotate_left
      · intro W9 hSw; skip; go_simp; try (with_reducible rfl)
      try simp only [Act.put, List.setIfInBounds_toArray, List.set_cons_zero, List.set_cons_succ]
      refine wpAnyL_take (i := 1) (oi := { dst := some 24, op := .load 29 (.tmp 23), type := _, pos := _, after := _, guard := none }) (v := ?_) rfl (by kernel_rfl) (by kernel_rfl) (by kernel_rfl) (fun _ _ _ h => h) (fun _ _ => Iff.rfl) hC (Or.inl ⟨by rfl, ?_⟩) hS (fun hC hS => ?_)
      rotate_left
      · intro W9 hSw; have q0 := (cell_of_row _ _ 0 _ _ _ hSw.choose_spec.2.2.1).trans rfl; have q1 := (cell_of_row _ _ 1 _ _ _ hSw.choose_spec.2.2.1).trans rfl; go_simp; try (with_reducible rfl)
      try simp only [Act.put, List.setIfInBounds_toArray, List.set_cons_zero, List.set_cons_succ]
      refine wpAnyL_take (i := 2) (oi := { dst := some 25, op := .fieldAddr 32 (.tmp 3) 1, type := _, pos := _, after := _, guard := none }) (v := ?_) rfl (by kernel_rfl) (by kernel_rfl) (by kernel_rfl) (fun _ _ _ h => h) (fun _ _ => Iff.rfl) hC (Or.inl ⟨by rfl, ?_⟩) hS (fun hC hS => ?_)
      rotate_left
      · intro W9 hSw; skip; go_simp; try (with_reducible rfl)
      try simp only [Act.put, List.setIfInBounds_toArray, List.set_cons_zero, List.set_cons_succ]
      refine wpAnyL_take (i := 3) (oi := { dst := some 26, op := .load 30 (.tmp 25), type := _, pos := _, after := _, guard := none }) (v := ?_) rfl (by kernel_rfl) (by kernel_rfl) (by kernel_rfl) (fun _ _ _ h => h) (fun _ _ => Iff.rfl) hC (Or.inl ⟨by rfl, ?_⟩) hS (fun hC hS => ?_)
      rotate_left
      · intro W9 hSw; have q1 := (cell_of_row _ _ 1 _ _ _ hSw.choose_spec.2.2.1).trans rfl; go_simp; try (with_reducible rfl)
      try simp only [Act.put, List.setIfInBounds_toArray, List.set_cons_zero, List.set_cons_succ]
      refine wpAnyL_take (i := 4) (oi := { dst := some 27, op := .move (.tmp 7), type := _, pos := _, after := _, guard := none }) (v := ?_) rfl (by kernel_rfl) (by kernel_rfl) (by kernel_rfl) (fun _ _ _ h => h) (fun _ _ => Iff.rfl) hC (Or.inl ⟨by rfl, ?_⟩) hS (fun hC hS => ?_)
      rotate_left
      · intro W9 hSw; skip; go_simp; try (with_reducible rfl)
      try simp only [Act.put, List.setIfInBounds_toArray, List.set_cons_zero, List.set_cons_succ]
      refine wpAnyL_take (i := 5) (oi := { dst := some 28, op := .indexAddr 30 (.tmp 26) (.tmp 27), type := _, pos := _, after := _, guard := none }) (v := ?_) rfl (by kernel_rfl) (by kernel_rfl) (by kernel_rfl) (fun _ _ _ h => h) (fun _ _ => Iff.rfl) hC (Or.inl ⟨by rfl, ?_⟩) hS (fun hC hS => ?_)
      rotate_left
      · intro W9 hSw; skip; go_simp; try (with_reducible rfl)
      try simp only [Act.put, List.setIfInBounds_toArray, List.set_cons_zero, List.set_cons_succ]
      refine wpAnyL_take (i := 6) (oi := { dst := some 29, op := .fieldAddr 91 (.tmp 28) 0, type := _, pos := _, after := _, guard := none }) (v := ?_) rfl (by kernel_rfl) (by kernel_rfl) (by kernel_rfl) (fun _ _ _ h => h) (fun _ _ => Iff.rfl) hC (Or.inl ⟨by rfl, ?_⟩) hS (fun hC hS => ?_)
      rotate_left
      · intro W9 hSw; skip; go_simp; try (with_reducible rfl)
      try simp only [Act.put, List.setIfInBounds_toArray, List.set_cons_zero, List.set_cons_succ]
      refine wpAnyL_take (i := 7) (oi := { dst := some 30, op := .load 3 (.tmp 29), type := _, pos := _, after := _, guard := none }) (v := ?_) rfl (by kernel_rfl) (by kernel_rfl) (by kernel_rfl) (fun _ _ _ h => h) (fun _ _ => Iff.rfl) hC (Or.inl ⟨by rfl, ?_⟩) hS (fun hC hS => ?_)
      rotate_left
      · intro W9 hSw; have q0 := hSw.choose_spec.2.2.2.1; have q1 := hSw.choose_spec.2.2.2.2; go_simp; try (with_reducible rfl)
      try simp only [Act.put, List.setIfInBounds_toArray, List.set_cons_zero, List.set_cons_succ]
      refine wpAnyL_take (i := 8) (oi := { dst := some 31, op := .fieldAddr 32 (.tmp 3) 1, type := _, pos := _, after := _, guard := none }) (v := ?_) rfl (by kernel_rfl) (by kernel_rfl) (by kernel_rfl) (fun _ _ _ h => h) (fun _ _ => Iff.rfl) hC (Or.inl ⟨by rfl, ?_⟩) hS (fun hC hS => ?_)
      rotate_left
      · intro W9 hSw; skip; go_simp; try (with_reducible rfl)
      try simp only [Act.put, List.setIfInBounds_toArray, List.set_cons_zero, List.set_cons_succ]
      refine wpAnyL_take (i := 9) (oi := { dst := some 32, op := .load 30 (.tmp 31), type := _, pos := _, after := _, guard := none }) (v := ?_) rfl (by kernel_rfl) (by kernel_rfl) (by kernel_rfl) (fun _ _ _ h => h) (fun _ _ => Iff.rfl) hC (Or.inl ⟨by rfl, ?_⟩) hS (fun hC hS => ?_)
      rotate_left
      · intro W9 hSw; have q1 := (cell_of_row _ _ 1 _ _ _ hSw.choose_spec.2.2.1).trans rfl; go_simp; try (with_reducible rfl)
      try simp only [Act.put, List.setIfInBounds_toArray, List.set_cons_zero, List.set_cons_succ]
      refine wpAnyL_take (i := 10) (oi := { dst := some 33, op := .move (.tmp 7), type := _, pos := _, after := _, guard := none }) (v := ?_) rfl (by kernel_rfl) (by kernel_rfl) (by kernel_rfl) (fun _ _ _ h => h) (fun _ _ => Iff.rfl) hC (Or.inl ⟨by rfl, ?_⟩) hS (fun hC hS => ?_)
      rotate_left
      · intro W9 hSw; skip; go_simp; try (with_reducible rfl)
      try simp only [Act.put, List.setIfInBounds_toArray, List.set_cons_zero, List.set_cons_succ]
      refine wpAnyL_take (i := 11) (oi := { dst := some 34, op := .indexAddr 30 (.tmp 32) (.tmp 33), type := _, pos := _, after := _, guard := none }) (v := ?_) rfl (by kernel_rfl) (by kernel_rfl) (by kernel_rfl) (fun _ _ _ h => h) (fun _ _ => Iff.rfl) hC (Or.inl ⟨by rfl, ?_⟩) hS (fun hC hS => ?_)
      rotate_left
      · intro W9 hSw; skip; go_simp; try (with_reducible rfl)
      try simp only [Act.put, List.setIfInBounds_toArray, List.set_cons_zero, List.set_cons_succ]
      refine wpAnyL_take (i := 12) (oi := { dst := some 35, op := .fieldAddr 91 (.tmp 34) 1, type := _, pos := _, after := _, guard := none }) (v := ?_) rfl (by kernel_rfl) (by kernel_rfl) (by kernel_rfl) (fun _ _ _ h => h) (fun _ _ => Iff.rfl) hC (Or.inl ⟨by rfl, ?_⟩) hS (fun hC hS => ?_)
      rotate_left
      · intro W9 hSw; skip; go_simp; try (with_reducible rfl)
      try simp only [Act.put, List.setIfInBounds_toArray, List.set_cons_zero, List.set_cons_succ]
      refine wpAnyL_take (i := 13) (oi := { dst := some 36, op := .load 9 (.tmp 35), type := _, pos := _, after := _, guard := none }) (v := ?_) rfl (by kernel_rfl) (by kernel_rfl) (by kernel_rfl) (fun _ _ _ h => h) (fun _ _ => Iff.rfl) hC (Or.inl ⟨by rfl, ?_⟩) hS (fun hC hS => ?_)
      rotate_left
      · intro W9 hSw; have q0 := hSw.choose_spec.2.2.2.1; have q1 := hSw.choose_spec.2.2.2.2; go_simp; try (with_reducible rfl)
      try simp only [Act.put, List.setIfInBounds_toArray, List.set_cons_zero, List.set_cons_succ]
      refine wpAnyL_take (i := 14) (oi := { dst := some 37, op := .indexAddr 29 (.tmp 24) (.tmp 30), type := _, pos := _, after := _, guard := none }) (v := ?_) rfl (by kernel_rfl) (by kernel_rfl) (by kernel_rfl) (fun _ _ _ h => h) (fun _ _ => Iff.rfl) hC (Or.inl ⟨by rfl, ?_⟩) hS (fun hC hS => ?_)
      rotate_left
      · intro W9 hSw; skip; go_simp; try (with_reducible rfl)
      try simp only [Act.put, List.setIfInBounds_toArray, List.set_cons_zero, List.set_cons_succ]
      refine wpAnyL_ready (rs := [15]) (by kernel_rfl) (by simp) hC ?_
      refine AllReadyL.cons (o := { dst := none, op := .store 9 (.tmp 37) (.tmp 36), type := _, pos := _, after := _, guard := none }) rfl (fun K9 hK => ?_) ?_
      · skip
        have y3 : wr.drew.cell? ⟨gg, j, none⟩ = some (.string o) := hck
        have f3 : wr.drew.frozen? ⟨gg, j, none⟩ = false := frozen_of_row _ _ _ _ _ (show wr.drew.heap[gg]? = _ from HG.out)
        go_simp
        have HK := Lib.hid ((KK.refl [gg] wr.drew).set (b := gg) (by simp) j (.string s))
        have HX9 := Lib.hid (HK.out.blk (show wr.drew.heap[w.heap.size]? = _ from HX.out) (by simpa using hnx))
        have HR9 := Lib.hid (HK.out.blk (show wr.drew.heap[w.heap.size + 1]? = _ from HR.out) (by simpa using hnr))
        have z0 := (World.cell?_of_block (a := ⟨b, off + k * 2, none⟩) (HK.out.block b hbb (by simpa using hne))).trans y0
        have z1 := (World.cell?_of_block (a := ⟨b, off + k * 2 + 1, none⟩) (HK.out.block b hbb (by simpa using hne))).trans y1
        have HO9 := Lib.hid (HO.out.drew.setS (i := j) s)
        have HQ9 := Lib.hid (HQ.out.drew.kkD HK.out (show wr.drew.heap[gg]? = _ from HG.out) (by decide))
        have HB9 := Lib.hid (HK.out.below HB.out.drew (fun b hb => by obtain rfl : b = gg := (by simpa using hb); exact hgm) HB.out.drew.size)
        refine hK _ _ ⟨HX9.out, z0, z1⟩ (fun hC => ?_)
        clear hK K9
        try simp only [Act.put, List.setIfInBounds_toArray, List.set_cons_zero, List.set_cons_succ]
        refine wpAnyL_done (by kernel_rfl) ?_ _
        clear x0 x1 y0 y1 y3 f3 z0 z1 hck hS
        go_wp2_with fail
        go_roundw
        case rel => exact ⟨k + 1, by go_num, by omega, HX9.out, HR9.out, by rw [HT.out]; exact HO9.out, HQ9.out, HB9.out⟩
        case measure => simp [intOf] <;> omega
      exact AllReadyL.nil
    · have hd1 : decide ((k : Int) < (CC.length : Int)) = false := decide_eq_false (by omega)
      have HO : Hid (OwX stC 1 9 wr w.heap.size (.slice B1 n1 k1) (setP (inK ks) 0 CC SS)) := Lib.hid (by have e : CC.take k = CC := List.take_of_length_le (by omega); rw [← e]; exact HO.out)
      have f0 : wr.frozen? ⟨w.heap.size, 1, none⟩ = false := frozen_of_row _ _ _ _ _ HX.out
      clear HQ
      go_upto_region 8 with (fail)
      clear x0 x1 f0
      have HKK901 := Lib.hid ((KK.refl [w.heap.size] wr).set (b := w.heap.size) (by simp) 1 (.slice none 0 0))
      have HF902 := Lib.hid (show (wr.setCell ⟨w.heap.size, 1, none⟩ (.slice none 0 0)).heap[w.heap.size]? = some (.cells #[.slice B1 n1 k1, .slice none 0 0] 32 (0, 0)) by have q := heap_setCell_at (i := 1) (u := .slice none 0 0) (HX.out); exact q)
      have HF903 := Lib.hid (HKK901.out.blk HR.out (by simp <;> omega))
      have HO904 := Lib.hid (HO.out.kkD HKK901.out HX.out (by decide))
      have HB905 := Lib.hid (HKK901.out.below HB.out (fun b hb => by obtain rfl : b = w.heap.size := (by simpa using hb); omega) HB.out.size)
      clear HB HX HR
      generalize (wr.setCell ⟨w.heap.size, 1, none⟩ (.slice none 0 0)) = w91 at *
      go_wp2_with (first
        | refine wpList_store_rowY rfl 32 (.tmp 6) (.tmp 39) rfl (w.heap.size + 1) #[.slice B1 n1 k1, .slice none 0 0] rfl rfl 32 _ HF903.out (info_im) rfl (by simp [Value.oneCell']) w.heap.size w HB905.out (by omega) ?_
        | refine wpList_load_row rfl 32 (.tmp 3) rfl (w.heap.size) rfl 32 #[.slice B1 n1 k1, .slice none 0 0] (0, 0) _ HF902.out Try.underlying32 rfl (info_im) ?_)
      intro w92 hbk hoth hbel _
      have HO906 := Lib.hid (HO904.out.oth hoth.out HF903.out (by decide))
      have HF907 := Lib.hid (blk_oth HF902.out hoth.out (by omega))
      have HF908 := Lib.hid hbk.out
      have HB909 := Lib.hid hbel.out
      clear hbk hoth hbel HB905 HF902 HF903
      go_wp2_with fail
      refine bodyPost_ret (results_cY rfl _ _ (w.heap.size + 1) #[.slice B1 n1 k1, .slice none 0 0] rfl (run_loadVar_row _ (w.heap.size + 1) 32 32 _ (0, 0) _ HF908.out Try.underlying32 rfl (by kernel_rfl))) rfl ?_
      exact ⟨B1, n1, k1, rfl, HO906.out, HB909.out⟩
end Go.Proofs.Ytiagbadnmkeokaa

namespace Go.Proofs.Ytiagbadnmkeokaa
open Go.RowKit Vi

/-- a number is a block's beyond a world's end -/
theorem step_false (SS : List ByteArray) (CC : List Wr) (ar op : Int) : Ds.step ⟨SS, CC, ar, false, op⟩ = ⟨SS, CC, stpF ar, stpD ar, stpO op ar⟩ := by
  unfold Ds.step stpF stpD stpO
  by_cases h : ar = 1
  · rw [if_pos h, if_pos h, if_pos h, decide_eq_true h]
  · rw [if_neg h, if_neg h, if_neg h, decide_eq_false h]
set_option maxRecDepth 100000 in
set_option maxHeartbeats 4000000 in
theorem rwrite_gone (P : Nat → Prop) (SS : List ByteArray) (CC : List Wr) (ar : Int) (op : Int) (A : Option Addr) (n c : Nat) (A2 : Option Addr) (n2 c2 : Nat) (i : Int) (s : ByteArray) (w : World) (h1 : RdP P stC 1 w A n SS) (h2 : RdP P wrC 2 w A2 n2 CC) :
    Calls Try.prog 45 #[rdv A n c A2 n2 c2 ar true op, .int .i64 i, .string s] w (RetDI P ⟨SS, CC, ar, true, op⟩ 7 w) := by
  have H1 := Lib.hid h1
  have H2 := Lib.hid h2
  have HL := Lib.hid h1.1.1
  clear h1 h2
  have HB1 := Lib.hid (Below.refl w.heap.size w)
  have HF2 := Lib.hid (blk_new w (.cells #[.slice A n c, .slice A2 n2 c2, .int .i64 ar, .bool true, .int .i64 op] 35 (0, 0)))
  have HB3 := Lib.hid (HB1.out.alloc HB1.out.size (.cells #[.slice A n c, .slice A2 n2 c2, .int .i64 ar, .bool true, .int .i64 op] 35 (0, 0)))
  clear HB1
  have HF4 := Lib.hid (blk_alloc HF2.out (.cells #[.slice none 0 0, .slice none 0 0, .int .i64 0, .bool false, .int .i64 0] 35 (0, 0)))
  clear HF2
  have HF5 : Hid (((w.alloc (.cells #[.slice A n c, .slice A2 n2 c2, .int .i64 ar, .bool true, .int .i64 op] 35 (0, 0))).alloc (.cells #[.slice none 0 0, .slice none 0 0, .int .i64 0, .bool false, .int .i64 0] 35 (0, 0))).heap[w.heap.size + 1]? = some (.cells #[.slice none 0 0, .slice none 0 0, .int .i64 0, .bool false, .int .i64 0] 35 (0, 0))) := Lib.hid (blk_newN (W := (w.alloc (.cells #[.slice A n c, .slice A2 n2 c2, .int .i64 ar, .bool true, .int .i64 op] 35 (0, 0)))) (o := (.cells #[.slice none 0 0, .slice none 0 0, .int .i64 0, .bool false, .int .i64 0] 35 (0, 0))) (by simp))
  have HB6 := Lib.hid (HB3.out.alloc (by have := HB3.out.size; simp at this ⊢ <;> omega) (.cells #[.slice none 0 0, .slice none 0 0, .int .i64 0, .bool false, .int .i64 0] 35 (0, 0)))
  clear HB3
  obtain ⟨v, hv⟩ : ∃ v, v = ((w.alloc (.cells #[.slice A n c, .slice A2 n2 c2, .int .i64 ar, .bool true, .int .i64 op] 35 (0, 0))).alloc (.cells #[.slice none 0 0, .slice none 0 0, .int .i64 0, .bool false, .int .i64 0] 35 (0, 0))) := ⟨_, rfl⟩
  have HVv := Lib.hid hv
  rw [← hv] at HF4 HF5 HB6
  clear hv
  go_enter Try.func45, Try.ntmps45
  go_upto_region 1 with (fail)
  rw [← HVv.out]
  have hc7 : v.cell? ⟨w.heap.size, 3, none⟩ = some (.bool true) := by rw [cell_of_row _ _ _ _ _ _ HF4.out]; rfl
  go_upto_region 2 with (fail)
  clear hc7
  go_wp2_with (first
    | refine wpList_store_rowY rfl 35 (.tmp 6) (.tmp 11) rfl (w.heap.size + 1) #[.slice A n c, .slice A2 n2 c2, .int .i64 ar, .bool true, .int .i64 op] rfl rfl 35 _ HF5.out (info_rd) rfl (by simp [Value.oneCell']) w.heap.size w HB6.out (by omega) ?_
    | refine wpList_load_row rfl 35 (.tmp 3) rfl (w.heap.size) rfl 35 #[.slice A n c, .slice A2 n2 c2, .int .i64 ar, .bool true, .int .i64 op] (0, 0) _ HF4.out Try.underlying35 rfl (info_rd) ?_)
  intro w1 hbk hoth hbel _
  have HF8 := Lib.hid (blk_oth HF4.out hoth.out (by omega))
  have HF9 := Lib.hid hbk.out
  have HB10 := Lib.hid hbel.out
  clear hbk hoth hbel HB6 HF4 HF5
  go_wp2_with fail
  refine bodyPost_ret (results_ctY rfl _ _ (w.heap.size + 1) #[.slice A n c, .slice A2 n2 c2, .int .i64 ar, .bool true, .int .i64 op] rfl (run_loadVar_row _ (w.heap.size + 1) 35 35 _ (0, 0) _ HF9.out Try.underlying35 rfl (by kernel_rfl))) rfl ?_
  exact ⟨_, rfl, ⟨A, n, c, A2, n2, c2, rfl, H1.out.below HB10.out, H2.out.below HB10.out⟩, HB10.out⟩
set_option maxRecDepth 100000 in
set_option maxHeartbeats 4000000 in
theorem rflush_gone (P : Nat → Prop) (SS : List ByteArray) (CC : List Wr) (ar : Int) (op : Int) (A : Option Addr) (n c : Nat) (A2 : Option Addr) (n2 c2 : Nat) (w : World) (h1 : RdP P stC 1 w A n SS) (h2 : RdP P wrC 2 w A2 n2 CC) :
    Calls Try.prog 47 #[rdv A n c A2 n2 c2 ar true op] w (RetDI P ⟨SS, CC, ar, true, op⟩ 7 w) := by
  have H1 := Lib.hid h1
  have H2 := Lib.hid h2
  have HL := Lib.hid h1.1.1
  clear h1 h2
  have HB1 := Lib.hid (Below.refl w.heap.size w)
  have HF2 := Lib.hid (blk_new w (.cells #[.slice A n c, .slice A2 n2 c2, .int .i64 ar, .bool true, .int .i64 op] 35 (0, 0)))
  have HB3 := Lib.hid (HB1.out.alloc HB1.out.size (.cells #[.slice A n c, .slice A2 n2 c2, .int .i64 ar, .bool true, .int .i64 op] 35 (0, 0)))
  clear HB1
  have HF4 := Lib.hid (blk_alloc HF2.out (.cells #[.slice none 0 0, .slice none 0 0, .int .i64 0, .bool false, .int .i64 0] 35 (0, 0)))
  clear HF2
  have HF5 : Hid (((w.alloc (.cells #[.slice A n c, .slice A2 n2 c2, .int .i64 ar, .bool true, .int .i64 op] 35 (0, 0))).alloc (.cells #[.slice none 0 0, .slice none 0 0, .int .i64 0, .bool false, .int .i64 0] 35 (0, 0))).heap[w.heap.size + 1]? = some (.cells #[.slice none 0 0, .slice none 0 0, .int .i64 0, .bool false, .int .i64 0] 35 (0, 0))) := Lib.hid (blk_newN (W := (w.alloc (.cells #[.slice A n c, .slice A2 n2 c2, .int .i64 ar, .bool true, .int .i64 op] 35 (0, 0)))) (o := (.cells #[.slice none 0 0, .slice none 0 0, .int .i64 0, .bool false, .int .i64 0] 35 (0, 0))) (by simp))
  have HB6 := Lib.hid (HB3.out.alloc (by have := HB3.out.size; simp at this ⊢ <;> omega) (.cells #[.slice none 0 0, .slice none 0 0, .int .i64 0, .bool false, .int .i64 0] 35 (0, 0)))
  clear HB3
  obtain ⟨v, hv⟩ : ∃ v, v = ((w.alloc (.cells #[.slice A n c, .slice A2 n2 c2, .int .i64 ar, .bool true, .int .i64 op] 35 (0, 0))).alloc (.cells #[.slice none 0 0, .slice none 0 0, .int .i64 0, .bool false, .int .i64 0] 35 (0, 0))) := ⟨_, rfl⟩
  have HVv := Lib.hid hv
  rw [← hv] at HF4 HF5 HB6
  clear hv
  go_enter Try.func47, Try.ntmps47
  go_upto_region 1 with (fail)
  rw [← HVv.out]
  have hc7 : v.cell? ⟨w.heap.size, 3, none⟩ = some (.bool true) := by rw [cell_of_row _ _ _ _ _ _ HF4.out]; rfl
  go_upto_region 2 with (fail)
  clear hc7
  go_wp2_with (first
    | refine wpList_store_rowY rfl 35 (.tmp 2) (.tmp 7) rfl (w.heap.size + 1) #[.slice A n c, .slice A2 n2 c2, .int .i64 ar, .bool true, .int .i64 op] rfl rfl 35 _ HF5.out (info_rd) rfl (by simp [Value.oneCell']) w.heap.size w HB6.out (by omega) ?_
    | refine wpList_load_row rfl 35 (.tmp 1) rfl (w.heap.size) rfl 35 #[.slice A n c, .slice A2 n2 c2, .int .i64 ar, .bool true, .int .i64 op] (0, 0) _ HF4.out Try.underlying35 rfl (info_rd) ?_)
  intro w1 hbk hoth hbel _
  have HF8 := Lib.hid (blk_oth HF4.out hoth.out (by omega))
  have HF9 := Lib.hid hbk.out
  have HB10 := Lib.hid hbel.out
  clear hbk hoth hbel HB6 HF4 HF5
  go_wp2_with fail
  refine bodyPost_ret (results_ctY rfl _ _ (w.heap.size + 1) #[.slice A n c, .slice A2 n2 c2, .int .i64 ar, .bool true, .int .i64 op] rfl (run_loadVar_row _ (w.heap.size + 1) 35 35 _ (0, 0) _ HF9.out Try.underlying35 rfl (by kernel_rfl))) rfl ?_
  exact ⟨_, rfl, ⟨A, n, c, A2, n2, c2, rfl, H1.out.below HB10.out, H2.out.below HB10.out⟩, HB10.out⟩
set_option maxRecDepth 100000 in
set_option maxHeartbeats 4000000 in
theorem rarm_gone (P : Nat → Prop) (SS : List ByteArray) (CC : List Wr) (ar : Int) (op : Int) (A : Option Addr) (n c : Nat) (A2 : Option Addr) (n2 c2 : Nat) (k : Int) (w : World) (h1 : RdP P stC 1 w A n SS) (h2 : RdP P wrC 2 w A2 n2 CC) :
    Calls Try.prog 48 #[rdv A n c A2 n2 c2 ar true op, .int .i64 k] w (RetDI P ⟨SS, CC, ar, true, op⟩ 7 w) := by
  have H1 := Lib.hid h1
  have H2 := Lib.hid h2
  have HL := Lib.hid h1.1.1
  clear h1 h2
  have HB1 := Lib.hid (Below.refl w.heap.size w)
  have HF2 := Lib.hid (blk_new w (.cells #[.slice A n c, .slice A2 n2 c2, .int .i64 ar, .bool true, .int .i64 op] 35 (0, 0)))
  have HB3 := Lib.hid (HB1.out.alloc HB1.out.size (.cells #[.slice A n c, .slice A2 n2 c2, .int .i64 ar, .bool true, .int .i64 op] 35 (0, 0)))
  clear HB1
  have HF4 := Lib.hid (blk_alloc HF2.out (.cells #[.slice none 0 0, .slice none 0 0, .int .i64 0, .bool false, .int .i64 0] 35 (0, 0)))
  clear HF2
  have HF5 : Hid (((w.alloc (.cells #[.slice A n c, .slice A2 n2 c2, .int .i64 ar, .bool true, .int .i64 op] 35 (0, 0))).alloc (.cells #[.slice none 0 0, .slice none 0 0, .int .i64 0, .bool false, .int .i64 0] 35 (0, 0))).heap[w.heap.size + 1]? = some (.cells #[.slice none 0 0, .slice none 0 0, .int .i64 0, .bool false, .int .i64 0] 35 (0, 0))) := Lib.hid (blk_newN (W := (w.alloc (.cells #[.slice A n c, .slice A2 n2 c2, .int .i64 ar, .bool true, .int .i64 op] 35 (0, 0)))) (o := (.cells #[.slice none 0 0, .slice none 0 0, .int .i64 0, .bool false, .int .i64 0] 35 (0, 0))) (by simp))
  have HB6 := Lib.hid (HB3.out.alloc (by have := HB3.out.size; simp at this ⊢ <;> omega) (.cells #[.slice none 0 0, .slice none 0 0, .int .i64 0, .bool false, .int .i64 0] 35 (0, 0)))
  clear HB3
  obtain ⟨v, hv⟩ : ∃ v, v = ((w.alloc (.cells #[.slice A n c, .slice A2 n2 c2, .int .i64 ar, .bool true, .int .i64 op] 35 (0, 0))).alloc (.cells #[.slice none 0 0, .slice none 0 0, .int .i64 0, .bool false, .int .i64 0] 35 (0, 0))) := ⟨_, rfl⟩
  have HVv := Lib.hid hv
  rw [← hv] at HF4 HF5 HB6
  clear hv
  go_enter Try.func48, Try.ntmps48
  go_upto_region 1 with (fail)
  rw [← HVv.out]
  have hc7 : v.cell? ⟨w.heap.size, 3, none⟩ = some (.bool true) := by rw [cell_of_row _ _ _ _ _ _ HF4.out]; rfl
  go_upto_region 2 with (fail)
  clear hc7
  go_wp2_with (first
    | refine wpList_store_rowY rfl 35 (.tmp 4) (.tmp 8) rfl (w.heap.size + 1) #[.slice A n c, .slice A2 n2 c2, .int .i64 ar, .bool true, .int .i64 op] rfl rfl 35 _ HF5.out (info_rd) rfl (by simp [Value.oneCell']) w.heap.size w HB6.out (by omega) ?_
    | refine wpList_load_row rfl 35 (.tmp 2) rfl (w.heap.size) rfl 35 #[.slice A n c, .slice A2 n2 c2, .int .i64 ar, .bool true, .int .i64 op] (0, 0) _ HF4.out Try.underlying35 rfl (info_rd) ?_)
  intro w1 hbk hoth hbel _
  have HF8 := Lib.hid (blk_oth HF4.out hoth.out (by omega))
  have HF9 := Lib.hid hbk.out
  have HB10 := Lib.hid hbel.out
  clear hbk hoth hbel HB6 HF4 HF5
  go_wp2_with fail
  refine bodyPost_ret (results_ctY rfl _ _ (w.heap.size + 1) #[.slice A n c, .slice A2 n2 c2, .int .i64 ar, .bool true, .int .i64 op] rfl (run_loadVar_row _ (w.heap.size + 1) 35 35 _ (0, 0) _ HF9.out Try.underlying35 rfl (by kernel_rfl))) rfl ?_
  exact ⟨_, rfl, ⟨A, n, c, A2, n2, c2, rfl, H1.out.below HB10.out, H2.out.below HB10.out⟩, HB10.out⟩
set_option maxRecDepth 100000 in
set_option maxHeartbeats 4000000 in
theorem rarm_no (P : Nat → Prop) (SS : List ByteArray) (CC : List Wr) (ar : Int) (op : Int) (A : Option Addr) (n c : Nat) (A2 : Option Addr) (n2 c2 : Nat) (k : Int) (w : World) (h1 : RdP P stC 1 w A n SS) (h2 : RdP P wrC 2 w A2 n2 CC) (hk : k < 0) :
    Calls Try.prog 48 #[rdv A n c A2 n2 c2 ar false op, .int .i64 k] w (RetDI P ⟨SS, CC, ar, false, op⟩ 2 w) := by
  have H1 := Lib.hid h1
  have H2 := Lib.hid h2
  have HL := Lib.hid h1.1.1
  clear h1 h2
  have d1 : decide (k < 0) = true := decide_eq_true hk
  have HB1 := Lib.hid (Below.refl w.heap.size w)
  have HF2 := Lib.hid (blk_new w (.cells #[.slice A n c, .slice A2 n2 c2, .int .i64 ar, .bool false, .int .i64 op] 35 (0, 0)))
  have HB3 := Lib.hid (HB1.out.alloc HB1.out.size (.cells #[.slice A n c, .slice A2 n2 c2, .int .i64 ar, .bool false, .int .i64 op] 35 (0, 0)))
  clear HB1
  have HF4 := Lib.hid (blk_alloc HF2.out (.cells #[.slice none 0 0, .slice none 0 0, .int .i64 0, .bool false, .int .i64 0] 35 (0, 0)))
  clear HF2
  have HF5 : Hid (((w.alloc (.cells #[.slice A n c, .slice A2 n2 c2, .int .i64 ar, .bool false, .int .i64 op] 35 (0, 0))).alloc (.cells #[.slice none 0 0, .slice none 0 0, .int .i64 0, .bool false, .int .i64 0] 35 (0, 0))).heap[w.heap.size + 1]? = some (.cells #[.slice none 0 0, .slice none 0 0, .int .i64 0, .bool false, .int .i64 0] 35 (0, 0))) := Lib.hid (blk_newN (W := (w.alloc (.cells #[.slice A n c, .slice A2 n2 c2, .int .i64 ar, .bool false, .int .i64 op] 35 (0, 0)))) (o := (.cells #[.slice none 0 0, .slice none 0 0, .int .i64 0, .bool false, .int .i64 0] 35 (0, 0))) (by simp))
  have HB6 := Lib.hid (HB3.out.alloc (by have := HB3.out.size; simp at this ⊢ <;> omega) (.cells #[.slice none 0 0, .slice none 0 0, .int .i64 0, .bool false, .int .i64 0] 35 (0, 0)))
  clear HB3
  obtain ⟨v, hv⟩ : ∃ v, v = ((w.alloc (.cells #[.slice A n c, .slice A2 n2 c2, .int .i64 ar, .bool false, .int .i64 op] 35 (0, 0))).alloc (.cells #[.slice none 0 0, .slice none 0 0, .int .i64 0, .bool false, .int .i64 0] 35 (0, 0))) := ⟨_, rfl⟩
  have HVv := Lib.hid hv
  rw [← hv] at HF4 HF5 HB6
  clear hv
  go_enter Try.func48, Try.ntmps48
  go_upto_region 1 with (fail)
  rw [← HVv.out]
  have hc7 : v.cell? ⟨w.heap.size, 3, none⟩ = some (.bool false) := by rw [cell_of_row _ _ _ _ _ _ HF4.out]; rfl
  go_upto_region 4 with (fail)
  clear hc7
  go_wp2_with (first
    | refine wpList_store_rowY rfl 35 (.tmp 4) (.tmp 11) rfl (w.heap.size + 1) #[.slice A n c, .slice A2 n2 c2, .int .i64 ar, .bool false, .int .i64 op] rfl rfl 35 _ HF5.out (info_rd) rfl (by simp [Value.oneCell']) w.heap.size w HB6.out (by omega) ?_
    | refine wpList_load_row rfl 35 (.tmp 2) rfl (w.heap.size) rfl 35 #[.slice A n c, .slice A2 n2 c2, .int .i64 ar, .bool false, .int .i64 op] (0, 0) _ HF4.out Try.underlying35 rfl (info_rd) ?_)
  intro w1 hbk hoth hbel _
  have HF8 := Lib.hid (blk_oth HF4.out hoth.out (by omega))
  have HF9 := Lib.hid hbk.out
  have HB10 := Lib.hid hbel.out
  clear hbk hoth hbel HB6 HF4 HF5
  go_wp2_with fail
  refine bodyPost_ret (results_ctY rfl _ _ (w.heap.size + 1) #[.slice A n c, .slice A2 n2 c2, .int .i64 ar, .bool false, .int .i64 op] rfl (run_loadVar_row _ (w.heap.size + 1) 35 35 _ (0, 0) _ HF9.out Try.underlying35 rfl (by kernel_rfl))) rfl ?_
  exact ⟨_, rfl, ⟨A, n, c, A2, n2, c2, rfl, H1.out.below HB10.out, H2.out.below HB10.out⟩, HB10.out⟩
set_option maxRecDepth 100000 in
set_option maxHeartbeats 4000000 in
theorem rarm_yes (P : Nat → Prop) (SS : List ByteArray) (CC : List Wr) (ar : Int) (op : Int) (A : Option Addr) (n c : Nat) (A2 : Option Addr) (n2 c2 : Nat) (k : Int) (w : World) (h1 : RdP P stC 1 w A n SS) (h2 : RdP P wrC 2 w A2 n2 CC) (hk : ¬ k < 0) :
    Calls Try.prog 48 #[rdv A n c A2 n2 c2 ar false op, .int .i64 k] w (RetDI P ⟨SS, CC, k, false, op⟩ 0 w) := by
  have H1 := Lib.hid h1
  have H2 := Lib.hid h2
  have HL := Lib.hid h1.1.1
  clear h1 h2
  have d1 : decide (k < 0) = false := decide_eq_false hk
  have HB1 := Lib.hid (Below.refl w.heap.size w)
  have HF2 := Lib.hid (blk_new w (.cells #[.slice A n c, .slice A2 n2 c2, .int .i64 ar, .bool false, .int .i64 op] 35 (0, 0)))
  have HB3 := Lib.hid (HB1.out.alloc HB1.out.size (.cells #[.slice A n c, .slice A2 n2 c2, .int .i64 ar, .bool false, .int .i64 op] 35 (0, 0)))
  clear HB1
  have HF4 := Lib.hid (blk_alloc HF2.out (.cells #[.slice none 0 0, .slice none 0 0, .int .i64 0, .bool false, .int .i64 0] 35 (0, 0)))
  clear HF2
  have HF5 : Hid (((w.alloc (.cells #[.slice A n c, .slice A2 n2 c2, .int .i64 ar, .bool false, .int .i64 op] 35 (0, 0))).alloc (.cells #[.slice none 0 0, .slice none 0 0, .int .i64 0, .bool false, .int .i64 0] 35 (0, 0))).heap[w.heap.size + 1]? = some (.cells #[.slice none 0 0, .slice none 0 0, .int .i64 0, .bool false, .int .i64 0] 35 (0, 0))) := Lib.hid (blk_newN (W := (w.alloc (.cells #[.slice A n c, .slice A2 n2 c2, .int .i64 ar, .bool false, .int .i64 op] 35 (0, 0)))) (o := (.cells #[.slice none 0 0, .slice none 0 0, .int .i64 0, .bool false, .int .i64 0] 35 (0, 0))) (by simp))
  have HB6 := Lib.hid (HB3.out.alloc (by have := HB3.out.size; simp at this ⊢ <;> omega) (.cells #[.slice none 0 0, .slice none 0 0, .int .i64 0, .bool false, .int .i64 0] 35 (0, 0)))
  clear HB3
  obtain ⟨v, hv⟩ : ∃ v, v = ((w.alloc (.cells #[.slice A n c, .slice A2 n2 c2, .int .i64 ar, .bool false, .int .i64 op] 35 (0, 0))).alloc (.cells #[.slice none 0 0, .slice none 0 0, .int .i64 0, .bool false, .int .i64 0] 35 (0, 0))) := ⟨_, rfl⟩
  have HVv := Lib.hid hv
  rw [← hv] at HF4 HF5 HB6
  clear hv
  go_enter Try.func48, Try.ntmps48
  go_upto_region 1 with (fail)
  rw [← HVv.out]
  have hc7 : v.cell? ⟨w.heap.size, 2, none⟩ = some (.int .i64 ar) := by rw [cell_of_row _ _ _ _ _ _ HF4.out]; rfl
  have hc8 : v.cell? ⟨w.heap.size, 3, none⟩ = some (.bool false) := by rw [cell_of_row _ _ _ _ _ _ HF4.out]; rfl
  have hz9 : v.frozen? ⟨w.heap.size, 2, none⟩ = false := frozen_of_row _ _ _ _ _ HF4.out
  go_upto_region 6 with (fail)
  clear hc7 hc8 hz9
  have HKK10 := Lib.hid ((KK.refl [w.heap.size] v).set (b := w.heap.size) (by simp) 2 (.int .i64 k))
  have HF11 := Lib.hid (show (v.setCell ⟨w.heap.size, 2, none⟩ (.int .i64 k)).heap[w.heap.size]? = some (.cells #[.slice A n c, .slice A2 n2 c2, .int .i64 k, .bool false, .int .i64 op] 35 (0, 0)) by have q := heap_setCell_at (i := 2) (u := .int .i64 k) (HF4.out); exact q)
  have HF12 := Lib.hid (HKK10.out.blk HF5.out (by simp <;> omega))
  have HB13 := Lib.hid (HKK10.out.below HB6.out (fun b hb => by obtain rfl : b = w.heap.size := (by simpa using hb); omega) HB6.out.size)
  clear HB6 HF4 HF5
  generalize (v.setCell ⟨w.heap.size, 2, none⟩ (.int .i64 k)) = w1 at *
  go_wp2_with (first
    | refine wpList_store_rowY rfl 35 (.tmp 4) (.tmp 14) rfl (w.heap.size + 1) #[.slice A n c, .slice A2 n2 c2, .int .i64 k, .bool false, .int .i64 op] rfl rfl 35 _ HF12.out (info_rd) rfl (by simp [Value.oneCell']) w.heap.size w HB13.out (by omega) ?_
    | refine wpList_load_row rfl 35 (.tmp 2) rfl (w.heap.size) rfl 35 #[.slice A n c, .slice A2 n2 c2, .int .i64 k, .bool false, .int .i64 op] (0, 0) _ HF11.out Try.underlying35 rfl (info_rd) ?_)
  intro w2 hbk hoth hbel _
  have HF14 := Lib.hid (blk_oth HF11.out hoth.out (by omega))
  have HF15 := Lib.hid hbk.out
  have HB16 := Lib.hid hbel.out
  clear hbk hoth hbel HB13 HF11 HF12
  go_wp2_with fail
  refine bodyPost_ret (results_ctY rfl _ _ (w.heap.size + 1) #[.slice A n c, .slice A2 n2 c2, .int .i64 k, .bool false, .int .i64 op] rfl (run_loadVar_row _ (w.heap.size + 1) 35 35 _ (0, 0) _ HF15.out Try.underlying35 rfl (by kernel_rfl))) rfl ?_
  exact ⟨_, rfl, ⟨A, n, c, A2, n2, c2, rfl, H1.out.below HB16.out, H2.out.below HB16.out⟩, HB16.out⟩
set_option maxRecDepth 100000 in
set_option maxHeartbeats 4000000 in
theorem rover_out (P : Nat → Prop) (SS : List ByteArray) (CC : List Wr) (ar : Int) (go : Bool) (op : Int) (A : Option Addr) (n c : Nat) (A2 : Option Addr) (n2 c2 : Nat) (i : Int) (s : ByteArray) (w : World) (h1 : RdP P stC 1 w A n SS) (h2 : RdP P wrC 2 w A2 n2 CC) (hi : ¬ (0 ≤ i ∧ i < (SS.length : Int))) :
    Calls Try.prog 51 #[rdv A n c A2 n2 c2 ar go op, .int .i64 i, .string s] w (RetDI P ⟨SS, CC, ar, go, op⟩ 8 w) := by
  have H1 := Lib.hid h1
  have H2 := Lib.hid h2
  have HL := Lib.hid h1.1.1
  clear h1 h2
  have HD := Lib.hid (show decide (0 ≤ i ∧ i < (n : Int)) = false from decide_eq_false (by rw [← HL.out]; exact hi))
  clear hi
  have HB1 := Lib.hid (Below.refl w.heap.size w)
  have HF2 := Lib.hid (blk_new w (.cells #[.slice A n c, .slice A2 n2 c2, .int .i64 ar, .bool go, .int .i64 op] 35 (0, 0)))
  have HB3 := Lib.hid (HB1.out.alloc HB1.out.size (.cells #[.slice A n c, .slice A2 n2 c2, .int .i64 ar, .bool go, .int .i64 op] 35 (0, 0)))
  clear HB1
  have HF4 := Lib.hid (blk_alloc HF2.out (.cells #[.slice none 0 0, .slice none 0 0, .int .i64 0, .bool false, .int .i64 0] 35 (0, 0)))
  clear HF2
  have HF5 : Hid (((w.alloc (.cells #[.slice A n c, .slice A2 n2 c2, .int .i64 ar, .bool go, .int .i64 op] 35 (0, 0))).alloc (.cells #[.slice none 0 0, .slice none 0 0, .int .i64 0, .bool false, .int .i64 0] 35 (0, 0))).heap[w.heap.size + 1]? = some (.cells #[.slice none 0 0, .slice none 0 0, .int .i64 0, .bool false, .int .i64 0] 35 (0, 0))) := Lib.hid (blk_newN (W := (w.alloc (.cells #[.slice A n c, .slice A2 n2 c2, .int .i64 ar, .bool go, .int .i64 op] 35 (0, 0)))) (o := (.cells #[.slice none 0 0, .slice none 0 0, .int .i64 0, .bool false, .int .i64 0] 35 (0, 0))) (by simp))
  have HB6 := Lib.hid (HB3.out.alloc (by have := HB3.out.size; simp at this ⊢ <;> omega) (.cells #[.slice none 0 0, .slice none 0 0, .int .i64 0, .bool false, .int .i64 0] 35 (0, 0)))
  clear HB3
  obtain ⟨v, hv⟩ : ∃ v, v = ((w.alloc (.cells #[.slice A n c, .slice A2 n2 c2, .int .i64 ar, .bool go, .int .i64 op] 35 (0, 0))).alloc (.cells #[.slice none 0 0, .slice none 0 0, .int .i64 0, .bool false, .int .i64 0] 35 (0, 0))) := ⟨_, rfl⟩
  have HVv := Lib.hid hv
  rw [← hv] at HF4 HF5 HB6
  clear hv
  go_enter Try.func51, Try.ntmps51
  go_upto_region 1 with (fail)
  rw [← HVv.out]
  have HIN := Lib.hid (rin_any A n c A2 n2 c2 ar go op i v)
  rw [HD.out] at HIN
  go_wp2_with (refine wpList_load_row rfl 35 (.tmp 3) rfl (w.heap.size) rfl 35 #[.slice A n c, .slice A2 n2 c2, .int .i64 ar, .bool go, .int .i64 op] (0, 0) _ HF4.out Try.underlying35 rfl (info_rd) ?_)
  refine (HIN.out).mono ?_
  rintro e w1 ⟨rfl, hb1⟩
  have HF7 := Lib.hid (blk_below HF4.out hb1)
  have HF8 := Lib.hid (blk_below HF5.out hb1)
  have HB9 := Lib.hid (HB6.out.trans (hb1.mono HB6.out.size))
  clear hb1 HB6 HF4 HF5
  clear HIN
  go_upto_region 2 with (fail)
  go_wp2_with (first
    | refine wpList_store_rowY rfl 35 (.tmp 6) (.tmp 12) rfl (w.heap.size + 1) #[.slice A n c, .slice A2 n2 c2, .int .i64 ar, .bool go, .int .i64 op] rfl rfl 35 _ HF8.out (info_rd) rfl (by simp [Value.oneCell']) w.heap.size w HB9.out (by omega) ?_
    | refine wpList_load_row rfl 35 (.tmp 3) rfl (w.heap.size) rfl 35 #[.slice A n c, .slice A2 n2 c2, .int .i64 ar, .bool go, .int .i64 op] (0, 0) _ HF7.out Try.underlying35 rfl (info_rd) ?_)
  intro w2 hbk hoth hbel _
  have HF10 := Lib.hid (blk_oth HF7.out hoth.out (by omega))
  have HF11 := Lib.hid hbk.out
  have HB12 := Lib.hid hbel.out
  clear hbk hoth hbel HB9 HF7 HF8
  go_wp2_with fail
  refine bodyPost_ret (results_ctY rfl _ _ (w.heap.size + 1) #[.slice A n c, .slice A2 n2 c2, .int .i64 ar, .bool go, .int .i64 op] rfl (run_loadVar_row _ (w.heap.size + 1) 35 35 _ (0, 0) _ HF11.out Try.underlying35 rfl (by kernel_rfl))) rfl ?_
  exact ⟨_, rfl, ⟨A, n, c, A2, n2, c2, rfl, H1.out.below HB12.out, H2.out.below HB12.out⟩, HB12.out⟩
set_option maxRecDepth 100000 in
set_option maxHeartbeats 4000000 in
theorem rover_len (P : Nat → Prop) (SS : List ByteArray) (CC : List Wr) (ar : Int) (go : Bool) (op : Int) (A : Option Addr) (n c : Nat) (A2 : Option Addr) (n2 c2 : Nat) (i : Int) (s : ByteArray) (w : World) (h1 : RdP P stC 1 w A n SS) (h2 : RdP P wrC 2 w A2 n2 CC) (hi : 0 ≤ i ∧ i < (SS.length : Int)) (hs : s.size ≠ 128) :
    Calls Try.prog 51 #[rdv A n c A2 n2 c2 ar go op, .int .i64 i, .string s] w (RetDI P ⟨SS, CC, ar, go, op⟩ 2 w) := by
  have H1 := Lib.hid h1
  have H2 := Lib.hid h2
  have HL := Lib.hid h1.1.1
  clear h1 h2
  have HD := Lib.hid (show decide (0 ≤ i ∧ i < (n : Int)) = true from decide_eq_true (by rw [← HL.out]; exact hi))
  have d1 : ((s.size : Int) != 128) = true := by simp; omega
  clear hi hs
  have HB1 := Lib.hid (Below.refl w.heap.size w)
  have HF2 := Lib.hid (blk_new w (.cells #[.slice A n c, .slice A2 n2 c2, .int .i64 ar, .bool go, .int .i64 op] 35 (0, 0)))
  have HB3 := Lib.hid (HB1.out.alloc HB1.out.size (.cells #[.slice A n c, .slice A2 n2 c2, .int .i64 ar, .bool go, .int .i64 op] 35 (0, 0)))
  clear HB1
  have HF4 := Lib.hid (blk_alloc HF2.out (.cells #[.slice none 0 0, .slice none 0 0, .int .i64 0, .bool false, .int .i64 0] 35 (0, 0)))
  clear HF2
  have HF5 : Hid (((w.alloc (.cells #[.slice A n c, .slice A2 n2 c2, .int .i64 ar, .bool go, .int .i64 op] 35 (0, 0))).alloc (.cells #[.slice none 0 0, .slice none 0 0, .int .i64 0, .bool false, .int .i64 0] 35 (0, 0))).heap[w.heap.size + 1]? = some (.cells #[.slice none 0 0, .slice none 0 0, .int .i64 0, .bool false, .int .i64 0] 35 (0, 0))) := Lib.hid (blk_newN (W := (w.alloc (.cells #[.slice A n c, .slice A2 n2 c2, .int .i64 ar, .bool go, .int .i64 op] 35 (0, 0)))) (o := (.cells #[.slice none 0 0, .slice none 0 0, .int .i64 0, .bool false, .int .i64 0] 35 (0, 0))) (by simp))
  have HB6 := Lib.hid (HB3.out.alloc (by have := HB3.out.size; simp at this ⊢ <;> omega) (.cells #[.slice none 0 0, .slice none 0 0, .int .i64 0, .bool false, .int .i64 0] 35 (0, 0)))
  clear HB3
  obtain ⟨v, hv⟩ : ∃ v, v = ((w.alloc (.cells #[.slice A n c, .slice A2 n2 c2, .int .i64 ar, .bool go, .int .i64 op] 35 (0, 0))).alloc (.cells #[.slice none 0 0, .slice none 0 0, .int .i64 0, .bool false, .int .i64 0] 35 (0, 0))) := ⟨_, rfl⟩
  have HVv := Lib.hid hv
  rw [← hv] at HF4 HF5 HB6
  clear hv
  go_enter Try.func51, Try.ntmps51
  go_upto_region 1 with (fail)
  rw [← HVv.out]
  have HIN := Lib.hid (rin_any A n c A2 n2 c2 ar go op i v)
  rw [HD.out] at HIN
  go_wp2_with (refine wpList_load_row rfl 35 (.tmp 3) rfl (w.heap.size) rfl 35 #[.slice A n c, .slice A2 n2 c2, .int .i64 ar, .bool go, .int .i64 op] (0, 0) _ HF4.out Try.underlying35 rfl (info_rd) ?_)
  refine (HIN.out).mono ?_
  rintro e w1 ⟨rfl, hb1⟩
  have HF7 := Lib.hid (blk_below HF4.out hb1)
  have HF8 := Lib.hid (blk_below HF5.out hb1)
  have HB9 := Lib.hid (HB6.out.trans (hb1.mono HB6.out.size))
  clear hb1 HB6 HF4 HF5
  clear HIN
  go_upto_region 4 with (fail)
  go_wp2_with (first
    | refine wpList_store_rowY rfl 35 (.tmp 6) (.tmp 16) rfl (w.heap.size + 1) #[.slice A n c, .slice A2 n2 c2, .int .i64 ar, .bool go, .int .i64 op] rfl rfl 35 _ HF8.out (info_rd) rfl (by simp [Value.oneCell']) w.heap.size w HB9.out (by omega) ?_
    | refine wpList_load_row rfl 35 (.tmp 3) rfl (w.heap.size) rfl 35 #[.slice A n c, .slice A2 n2 c2, .int .i64 ar, .bool go, .int .i64 op] (0, 0) _ HF7.out Try.underlying35 rfl (info_rd) ?_)
  intro w2 hbk hoth hbel _
  have HF10 := Lib.hid (blk_oth HF7.out hoth.out (by omega))
  have HF11 := Lib.hid hbk.out
  have HB12 := Lib.hid hbel.out
  clear hbk hoth hbel HB9 HF7 HF8
  go_wp2_with fail
  refine bodyPost_ret (results_ctY rfl _ _ (w.heap.size + 1) #[.slice A n c, .slice A2 n2 c2, .int .i64 ar, .bool go, .int .i64 op] rfl (run_loadVar_row _ (w.heap.size + 1) 35 35 _ (0, 0) _ HF11.out Try.underlying35 rfl (by kernel_rfl))) rfl ?_
  exact ⟨_, rfl, ⟨A, n, c, A2, n2, c2, rfl, H1.out.below HB12.out, H2.out.below HB12.out⟩, HB12.out⟩
set_option maxRecDepth 100000 in
set_option maxHeartbeats 4000000 in
theorem rover_yes (P : Nat → Prop) (SS : List ByteArray) (CC : List Wr) (ar : Int) (go : Bool) (op : Int) (A : Option Addr) (n c : Nat) (A2 : Option Addr) (n2 c2 : Nat) (i : Int) (s : ByteArray) (w : World) (h1 : RdP P stC 1 w A n SS) (h2 : RdP P wrC 2 w A2 n2 CC) (hi : 0 ≤ i ∧ i < (SS.length : Int)) (hs : s.size = 128) (hn : n ≤ 100000) (hn2 : n2 ≤ 100000) (hP : ∀ b, w.heap.size ≤ b → P b) :
    Calls Try.prog 51 #[rdv A n c A2 n2 c2 ar go op, .int .i64 i, .string s] w (RetDI P ⟨SS.set i.toNat s, CC, ar, go, op⟩ 0 w) := by
  have H1 := Lib.hid h1
  have H2 := Lib.hid h2
  have HL := Lib.hid h1.1.1
  clear h1 h2
  have HD := Lib.hid (show decide (0 ≤ i ∧ i < (n : Int)) = true from decide_eq_true (by rw [← HL.out]; exact hi))
  have d1 : ((s.size : Int) != 128) = false := by simp; omega
  obtain ⟨hi0, hi1⟩ := hi
  obtain ⟨j, rfl⟩ : ∃ j : Nat, i = (j : Int) := ⟨i.toNat, by omega⟩
  have hj : j < SS.length := by omega
  have HP := Lib.hid hP
  clear hP hs
  have HB1 := Lib.hid (Below.refl w.heap.size w)
  have HF2 := Lib.hid (blk_new w (.cells #[.slice A n c, .slice A2 n2 c2, .int .i64 ar, .bool go, .int .i64 op] 35 (0, 0)))
  have HB3 := Lib.hid (HB1.out.alloc HB1.out.size (.cells #[.slice A n c, .slice A2 n2 c2, .int .i64 ar, .bool go, .int .i64 op] 35 (0, 0)))
  clear HB1
  have HF4 := Lib.hid (blk_alloc HF2.out (.cells #[.slice none 0 0, .slice none 0 0, .int .i64 0, .bool false, .int .i64 0] 35 (0, 0)))
  clear HF2
  have HF5 : Hid (((w.alloc (.cells #[.slice A n c, .slice A2 n2 c2, .int .i64 ar, .bool go, .int .i64 op] 35 (0, 0))).alloc (.cells #[.slice none 0 0, .slice none 0 0, .int .i64 0, .bool false, .int .i64 0] 35 (0, 0))).heap[w.heap.size + 1]? = some (.cells #[.slice none 0 0, .slice none 0 0, .int .i64 0, .bool false, .int .i64 0] 35 (0, 0))) := Lib.hid (blk_newN (W := (w.alloc (.cells #[.slice A n c, .slice A2 n2 c2, .int .i64 ar, .bool go, .int .i64 op] 35 (0, 0)))) (o := (.cells #[.slice none 0 0, .slice none 0 0, .int .i64 0, .bool false, .int .i64 0] 35 (0, 0))) (by simp))
  have HB6 := Lib.hid (HB3.out.alloc (by have := HB3.out.size; simp at this ⊢ <;> omega) (.cells #[.slice none 0 0, .slice none 0 0, .int .i64 0, .bool false, .int .i64 0] 35 (0, 0)))
  clear HB3
  obtain ⟨v, hv⟩ : ∃ v, v = ((w.alloc (.cells #[.slice A n c, .slice A2 n2 c2, .int .i64 ar, .bool go, .int .i64 op] 35 (0, 0))).alloc (.cells #[.slice none 0 0, .slice none 0 0, .int .i64 0, .bool false, .int .i64 0] 35 (0, 0))) := ⟨_, rfl⟩
  have HVv := Lib.hid hv
  rw [← hv] at HF4 HF5 HB6
  clear hv
  go_enter Try.func51, Try.ntmps51
  go_upto_region 1 with (fail)
  rw [← HVv.out]
  have HIN := Lib.hid (rin_any A n c A2 n2 c2 ar go op (j : Int) v)
  rw [HD.out] at HIN
  go_wp2_with (refine wpList_load_row rfl 35 (.tmp 3) rfl (w.heap.size) rfl 35 #[.slice A n c, .slice A2 n2 c2, .int .i64 ar, .bool go, .int .i64 op] (0, 0) _ HF4.out Try.underlying35 rfl (info_rd) ?_)
  refine (HIN.out).mono ?_
  rintro e w1 ⟨rfl, hb1⟩
  have HF7 := Lib.hid (blk_below HF4.out hb1)
  have HF8 := Lib.hid (blk_below HF5.out hb1)
  have HB9 := Lib.hid (HB6.out.trans (hb1.mono HB6.out.size))
  clear hb1 HB6 HF4 HF5
  clear HIN
  have hc10 : w1.cell? ⟨w.heap.size, 0, none⟩ = some (.slice A n c) := by rw [cell_of_row _ _ _ _ _ _ HF7.out]; rfl
  have hc11 : w1.cell? ⟨w.heap.size, 1, none⟩ = some (.slice A2 n2 c2) := by rw [cell_of_row _ _ _ _ _ _ HF7.out]; rfl
  have HCP := Lib.hid (rcopy_any A n c A2 n2 c2 SS CC w1 (H1.out.1.below HB9.out) (H2.out.1.below HB9.out) hn hn2)
  go_wp2_with fail
  refine (HCP.out).mono ?_
  rintro e w2 ⟨B1, m1, k1, B2, m2, k2, rfl, ho1, ho2, hb2⟩
  clear hc10 hc11
  have HF12 := Lib.hid (blk_below HF7.out hb2)
  have HF13 := Lib.hid (blk_below HF8.out hb2)
  have HB14 := Lib.hid (HB9.out.trans (hb2.mono HB9.out.size))
  have HO0 := Lib.hid (ho1.mono (B' := w.heap.size) HB9.out.size)
  have HQ0 := Lib.hid (ho2.mono (B' := w.heap.size) HB9.out.size)
  clear hb2 HB9 HF7 HF8
  clear HCP ho1 ho2
  have hc15 : w2.cell? ⟨w.heap.size, 0, none⟩ = some (.slice A n c) := by rw [cell_of_row _ _ _ _ _ _ HF12.out]; rfl
  have hc16 : w2.cell? ⟨w.heap.size, 1, none⟩ = some (.slice A2 n2 c2) := by rw [cell_of_row _ _ _ _ _ _ HF12.out]; rfl
  have hz17 : w2.frozen? ⟨w.heap.size, 0, none⟩ = false := frozen_of_row _ _ _ _ _ HF12.out
  have hz18 : w2.frozen? ⟨w.heap.size, 1, none⟩ = false := frozen_of_row _ _ _ _ _ HF12.out
  go_upto_region 6 with (fail)
  clear hc15 hc16 hz17 hz18
  have HKK19 := Lib.hid (((KK.refl [w.heap.size] w2).set (b := w.heap.size) (by simp) 0 (.slice B1 m1 k1)).set (b := w.heap.size) (by simp) 1 (.slice B2 m2 k2))
  have HF20 := Lib.hid (show ((w2.setCell ⟨w.heap.size, 0, none⟩ (.slice B1 m1 k1)).setCell ⟨w.heap.size, 1, none⟩ (.slice B2 m2 k2)).heap[w.heap.size]? = some (.cells #[.slice B1 m1 k1, .slice B2 m2 k2, .int .i64 ar, .bool go, .int .i64 op] 35 (0, 0)) by have q := heap_setCell_at (i := 1) (u := .slice B2 m2 k2) (heap_setCell_at (i := 0) (u := .slice B1 m1 k1) (HF12.out)); exact q)
  have HF21 := Lib.hid (HKK19.out.blk HF13.out (by simp <;> omega))
  have HO22 := Lib.hid (HO0.out.kkD HKK19.out HF12.out (by decide))
  have HQ23 := Lib.hid (HQ0.out.kkD HKK19.out HF12.out (by decide))
  have HB24 := Lib.hid (HKK19.out.below HB14.out (fun b hb => by obtain rfl : b = w.heap.size := (by simpa using hb); omega) HB14.out.size)
  clear HB14 HF12 HF13
  generalize ((w2.setCell ⟨w.heap.size, 0, none⟩ (.slice B1 m1 k1)).setCell ⟨w.heap.size, 1, none⟩ (.slice B2 m2 k2)) = w3 at *
  rcases HO22.out with ⟨_, ⟨_, h0⟩ | ⟨gg, cap, cur, e, hgg, hheap, _⟩⟩
  · omega
  injection e with e1 e2 e3
  subst e1 e2 e3
  obtain ⟨A9, c9, e, hr2, _, _⟩ := HO22.out.rd stC_len
  injection e with e4 e5 e6
  subst e4
  have HG := Lib.hid hheap
  have hck : w3.cell? ⟨gg, j, none⟩ = some (.string SS[j]) := by
    obtain ⟨b2, off2, hb2, _, hc2⟩ := hr2.2 (by omega)
    injection hb2 with hb2
    injection hb2 with hb3 hb4
    subst hb3 hb4
    have q := hc2 j SS[j] 0 (.string SS[j]) (List.getElem?_eq_getElem hj) rfl
    rw [Nat.zero_add, Nat.mul_one, Nat.add_zero] at q
    exact q
  obtain ⟨o, ho⟩ : ∃ o, o = SS[j] := ⟨_, rfl⟩
  rw [← ho] at hck
  have hfk : w3.frozen? ⟨gg, j, none⟩ = false := frozen_of_row _ _ _ _ _ hheap
  have hj1 : (j : Int) < (SS.length : Int) := by omega
  clear hr2 ho hheap e5 e6 hi1
  have hc25 : w3.cell? ⟨w.heap.size, 0, none⟩ = some (.slice (some ⟨gg, 0, none⟩) SS.length k1) := by rw [cell_of_row _ _ _ _ _ _ HF20.out]; rfl
  have hnp : ¬ w.heap.size = gg := fun e => by
    have q := HF20.out
    rw [e, HG.out] at q
    cases q
  have hnr : ¬ w.heap.size + 1 = gg := fun e => by
    have q := HF21.out
    rw [e, HG.out] at q
    cases q
  go_upto_region 7 with (fail)
  have HK := Lib.hid ((KK.refl [gg] w3).set (b := gg) (by simp) j (.string s))
  have HFp := Lib.hid (HK.out.blk HF20.out (by simpa using hnp))
  have HFr := Lib.hid (HK.out.blk HF21.out (by simpa using hnr))
  have HO9 := Lib.hid (HO22.out.setS (i := j) s)
  have HQ9 := Lib.hid (HQ23.out.kkD HK.out HG.out (by decide))
  have HB9 := Lib.hid (HK.out.below HB24.out (fun b hb => by obtain rfl : b = gg := (by simpa using hb); exact hgg) HB24.out.size)
  clear hc25
  clear hck hfk
  generalize (w3.setCell ⟨gg, j, none⟩ (.string s)) = w90 at *
  go_wp2_with (first
    | refine wpList_store_rowY rfl 35 (.tmp 6) (.tmp 27) rfl (w.heap.size + 1) #[.slice (some ⟨gg, 0, none⟩) SS.length k1, .slice B2 m2 k2, .int .i64 ar, .bool go, .int .i64 op] rfl rfl 35 _ HFr.out (info_rd) rfl (by simp [Value.oneCell']) w.heap.size w HB9.out (by omega) ?_
    | refine wpList_load_row rfl 35 (.tmp 3) rfl (w.heap.size) rfl 35 #[.slice (some ⟨gg, 0, none⟩) SS.length k1, .slice B2 m2 k2, .int .i64 ar, .bool go, .int .i64 op] (0, 0) _ HFp.out Try.underlying35 rfl (info_rd) ?_)
  intro w4 hbk hoth hbel _
  have HO26 := Lib.hid (HO9.out.oth hoth.out HFr.out (by decide))
  have HQ27 := Lib.hid (HQ9.out.oth hoth.out HFr.out (by decide))
  have HF28 := Lib.hid (blk_oth HFp.out hoth.out (by omega))
  have HF29 := Lib.hid hbk.out
  have HB30 := Lib.hid hbel.out
  clear hbk hoth hbel HB9 HFp HFr
  go_wp2_with fail
  refine bodyPost_ret (results_ctY rfl _ _ (w.heap.size + 1) #[.slice (some ⟨gg, 0, none⟩) SS.length k1, .slice B2 m2 k2, .int .i64 ar, .bool go, .int .i64 op] rfl (run_loadVar_row _ (w.heap.size + 1) 35 35 _ (0, 0) _ HF29.out Try.underlying35 rfl (by kernel_rfl))) rfl ?_
  exact ⟨_, rfl, ⟨_, _, _, B2, m2, k2, rfl, (show RdP P stC 1 _ (some ⟨gg, 0, none⟩) SS.length (SS.set j s) from OwX.rdP stC_len HP.out (by simpa using HO26.out)), OwX.rdP wrC_len HP.out HQ27.out⟩, HB30.out⟩
end Go.Proofs.Ytiagbadnmkeokaa
