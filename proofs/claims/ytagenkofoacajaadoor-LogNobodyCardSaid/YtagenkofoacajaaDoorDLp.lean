/- slices.Clone of texts and of writes; a disk's copy of its image; Seize; over this translation. Condition: at most 100000 sectors, at most 100000 writes. -/
import Derived.Test.YtagenkofoacajaaDoorDLo
import Derived.Test.YtagenkofoacajaaDoorPm
namespace Go.Proofs.YtagenkofoacajaaDoor
open Go.RowKit Vi

/-- a row of the call's own is handed back -/
def OwnL {α : Type} (f : α → List Value) (s : Nat) (T : TypeId) (w : World) (L : List α) (e : Ending) (w' : World) : Prop := ∃ v, e = .returned v ∧ OwX f s T w' w.heap.size v L ∧ Below w.heap.size w w'
set_option maxRecDepth 100000 in
set_option maxHeartbeats 800000 in
theorem dclone_st (A : Option Addr) (n c : Nat) (l : List ByteArray) (w : World) (h : RdX stC 1 w A n l) (hn : n ≤ 100000) :
    Calls Tryd.prog 121 #[.slice A n c] w (OwnL stC 1 9 w l) := by
  have q24 : ∀ (w : World) (a : Option Addr) (n c n' c' : Nat), (binOp .eql 27 (.slice a n c) (.slice none n' c')).run Tryd.prog w = .ok (.bool a.isNone) w := fun w a n c n' c' => Lib.run_eql_slice_nil w _ _ a n c n' c' Tryd.underlying27
  have H := Lib.hid h
  rcases A with _ | ad
  · have h0 : l = [] := by
      rcases Nat.eq_zero_or_pos n with h0 | h0
      · exact List.length_eq_zero_iff.1 (by rw [h.1]; exact h0)
      · obtain ⟨b, off, e, _⟩ := h.2 h0
        cases e
    subst h0
    clear h
    go_enter Tryd.func121, Tryd.ntmps121
    go_wp2
    go_ret
    exact ⟨_, rfl, OwX.nil w, Below.refl _ _⟩
  · clear h
    go_enter Tryd.func121, Tryd.ntmps121
    go_wp2_with (at_builtin; refine wpList_appXs rfl _ _ 27 9 _ 16 rfl Tryd.underlying27 info_stA rfl (by omega) (by omega) stC_len stC_one w.heap.size w ((Below.refl _ w).alloc (Nat.le_refl _) _) (by simp) _ [] rfl (OwX.zero (blk_new w _) (Nat.le_refl _) (Nat.zero_le _) rfl) (some ad) n c l rfl (H.out.below ((Below.refl _ w).alloc (Nat.le_refl _) _)) (by simp; omega) ?_)
    intro v1 w1 HO HB HZ HG
    have hv1 := HO.out.one
    go_wp2_with fail
    go_ret
    exact ⟨v1, rfl, HO.out, HB.out⟩
set_option maxRecDepth 100000 in
set_option maxHeartbeats 800000 in
theorem dclone_wr (A : Option Addr) (n c : Nat) (l : List Wr) (w : World) (h : RdX wrC 2 w A n l) (hn : n ≤ 100000) :
    Calls Tryd.prog 122 #[.slice A n c] w (OwnL wrC 2 112 w l) := by
  have q24 : ∀ (w : World) (a : Option Addr) (n c n' c' : Nat), (binOp .eql 92 (.slice a n c) (.slice none n' c')).run Tryd.prog w = .ok (.bool a.isNone) w := fun w a n c n' c' => Lib.run_eql_slice_nil w _ _ a n c n' c' Tryd.underlying92
  have H := Lib.hid h
  rcases A with _ | ad
  · have h0 : l = [] := by
      rcases Nat.eq_zero_or_pos n with h0 | h0
      · exact List.length_eq_zero_iff.1 (by rw [h.1]; exact h0)
      · obtain ⟨b, off, e, _⟩ := h.2 h0
        cases e
    subst h0
    clear h
    go_enter Tryd.func122, Tryd.ntmps122
    go_wp2
    go_ret
    exact ⟨_, rfl, OwX.nil w, Below.refl _ _⟩
  · clear h
    go_enter Tryd.func122, Tryd.ntmps122
    go_wp2_with (at_builtin; refine wpList_appXs rfl _ _ 92 112 _ 24 rfl Tryd.underlying92 info_wrB rfl (by omega) (by omega) wrC_len wrC_one w.heap.size w ((Below.refl _ w).alloc (Nat.le_refl _) _) (by simp) _ [] rfl (OwX.zero (blk_new w _) (Nat.le_refl _) (Nat.zero_le _) rfl) (some ad) n c l rfl (H.out.below ((Below.refl _ w).alloc (Nat.le_refl _) _)) (by simp; omega) ?_)
    intro v1 w1 HO HB HZ HG
    have hv1 := HO.out.one
    go_wp2_with fail
    go_ret
    exact ⟨v1, rfl, HO.out, HB.out⟩
/-- what a copy of an image is -/
def CpP (SS : List ByteArray) (CC : List Wr) (w : World) (e : Ending) (w' : World) : Prop := ∃ A n c A2 n2 c2, e = .returned (.agg #[.slice A n c, .slice A2 n2 c2]) ∧ OwX stC 1 9 w' w.heap.size (.slice A n c) SS ∧ OwX wrC 2 112 w' w.heap.size (.slice A2 n2 c2) CC ∧ Below w.heap.size w w'
theorem info_img : (Tryd.prog.info? 97).map (·.size) = some 2 := by kernel_rfl
set_option maxRecDepth 100000 in
set_option maxHeartbeats 4000000 in
theorem dcopy_any (D : Nat) (sa : Option Addr) (sn sc : Nat) (ca : Option Addr) (cn cc : Nat) (SS : List ByteArray) (CC : List Wr) (w : World) (d0 : w.cell? ⟨D, 0, none⟩ = some (.slice sa sn sc)) (d1 : w.cell? ⟨D, 1, none⟩ = some (.slice ca cn cc)) (h2 : RdX stC 1 w sa sn SS) (h3 : RdX wrC 2 w ca cn CC) (hs : sn ≤ 100000) (hc : cn ≤ 100000) :
    Calls Tryd.prog 96 #[.pointer (some ⟨D, 0, none⟩)] w (CpP SS CC w) := by
  have hDl : D < w.heap.size := World.block_lt_of_cell? w _ d0
  have HB0 := Lib.hid ((Below.refl w.heap.size w).alloc (Nat.le_refl _) (.cells #[.slice none 0 0, .slice none 0 0] 97 (0, 0)))
  have HR0 := Lib.hid (blk_new w (.cells #[.slice none 0 0, .slice none 0 0] 97 (0, 0)))
  have H20 := Lib.hid (h2.below HB0.out)
  have H30 := Lib.hid (h3.below HB0.out)
  have HD0 : Hid ((w.alloc (.cells #[.slice none 0 0, .slice none 0 0] 97 (0, 0))).cell? ⟨D, 0, none⟩ = some (.slice sa sn sc)) := Lib.hid ((HB0.out.cell (p := ⟨D, 0, none⟩) hDl).trans d0)
  have HD1 : Hid ((w.alloc (.cells #[.slice none 0 0, .slice none 0 0] 97 (0, 0))).cell? ⟨D, 1, none⟩ = some (.slice ca cn cc)) := Lib.hid ((HB0.out.cell (p := ⟨D, 1, none⟩) hDl).trans d1)
  clear d0 d1 h2 h3
  go_enter Tryd.func96, Tryd.ntmps96
  go_upto_region 1 with (fail)
  obtain ⟨v, hv⟩ : ∃ v, v = w.alloc (.cells #[.slice none 0 0, .slice none 0 0] 97 (0, 0)) := ⟨_, rfl⟩
  rw [← hv] at HB0 HR0 H20 H30 HD0 HD1
  rw [← hv]
  clear hv
  refine wp_region_L_drew (S := fun _ W => W.cell? ⟨D, 0, none⟩ = some (.slice sa sn sc) ∧ W.cell? ⟨D, 1, none⟩ = some (.slice ca cn cc)) (by kernel_rfl) ⟨HD0.out, HD1.out⟩ (fun hS hC => ?_)
  refine wpAnyL_take (i := 0) (oi := { dst := some 3, op := .move (.tmp 0), type := _, pos := _, after := _, guard := none }) (v := ?_) rfl (by kernel_rfl) (by kernel_rfl) (by kernel_rfl) (fun _ _ _ h => h) (fun _ _ => Iff.rfl) hC (Or.inl ⟨by rfl, ?_⟩) hS (fun hC hS => ?_)
  rotate_left
  · intro W9 hSw; skip; go_simp; try (with_reducible rfl)
  try simp only [Act.put, List.setIfInBounds_toArray, List.set_cons_zero, List.set_cons_succ]
  refine wpAnyL_take (i := 1) (oi := { dst := some 4, op := .nilCheck (.tmp 3), type := _, pos := _, after := _, guard := none }) (v := ?_) rfl (by kernel_rfl) (by kernel_rfl) (by kernel_rfl) (fun _ _ _ h => h) (fun _ _ => Iff.rfl) hC (Or.inl ⟨by rfl, ?_⟩) hS (fun hC hS => ?_)
  rotate_left
  · intro W9 hSw; skip; go_simp; try (with_reducible rfl)
  try simp only [Act.put, List.setIfInBounds_toArray, List.set_cons_zero, List.set_cons_succ]
  refine wpAnyL_take (i := 2) (oi := { dst := some 5, op := .fieldAddr 97 (.tmp 4) 0, type := _, pos := _, after := _, guard := none }) (v := ?_) rfl (by kernel_rfl) (by kernel_rfl) (by kernel_rfl) (fun _ _ _ h => h) (fun _ _ => Iff.rfl) hC (Or.inl ⟨by rfl, ?_⟩) hS (fun hC hS => ?_)
  rotate_left
  · intro W9 hSw; skip; go_simp; try (with_reducible rfl)
  try simp only [Act.put, List.setIfInBounds_toArray, List.set_cons_zero, List.set_cons_succ]
  refine wpAnyL_take (i := 3) (oi := { dst := some 6, op := .load 27 (.tmp 5), type := _, pos := _, after := _, guard := none }) (v := ?_) rfl (by kernel_rfl) (by kernel_rfl) (by kernel_rfl) (fun _ _ _ h => h) (fun _ _ => Iff.rfl) hC (Or.inl ⟨by rfl, ?_⟩) hS (fun hC hS => ?_)
  rotate_left
  · intro W9 hSw; obtain ⟨_, _, _, q0, _⟩ := hSw; go_simp; try (with_reducible rfl)
  try simp only [Act.put, List.setIfInBounds_toArray, List.set_cons_zero, List.set_cons_succ]
  refine wpAnyL_take (i := 5) (oi := { dst := some 8, op := .move (.tmp 0), type := _, pos := _, after := _, guard := none }) (v := ?_) rfl (by kernel_rfl) (by kernel_rfl) (by kernel_rfl) (fun _ _ _ h => h) (fun _ _ => Iff.rfl) hC (Or.inl ⟨by rfl, ?_⟩) hS (fun hC hS => ?_)
  rotate_left
  · intro W9 hSw; skip; go_simp; try (with_reducible rfl)
  try simp only [Act.put, List.setIfInBounds_toArray, List.set_cons_zero, List.set_cons_succ]
  refine wpAnyL_take (i := 6) (oi := { dst := some 9, op := .nilCheck (.tmp 8), type := _, pos := _, after := _, guard := none }) (v := ?_) rfl (by kernel_rfl) (by kernel_rfl) (by kernel_rfl) (fun _ _ _ h => h) (fun _ _ => Iff.rfl) hC (Or.inl ⟨by rfl, ?_⟩) hS (fun hC hS => ?_)
  rotate_left
  · intro W9 hSw; skip; go_simp; try (with_reducible rfl)
  try simp only [Act.put, List.setIfInBounds_toArray, List.set_cons_zero, List.set_cons_succ]
  refine wpAnyL_take (i := 7) (oi := { dst := some 10, op := .fieldAddr 97 (.tmp 9) 1, type := _, pos := _, after := _, guard := none }) (v := ?_) rfl (by kernel_rfl) (by kernel_rfl) (by kernel_rfl) (fun _ _ _ h => h) (fun _ _ => Iff.rfl) hC (Or.inl ⟨by rfl, ?_⟩) hS (fun hC hS => ?_)
  rotate_left
  · intro W9 hSw; skip; go_simp; try (with_reducible rfl)
  try simp only [Act.put, List.setIfInBounds_toArray, List.set_cons_zero, List.set_cons_succ]
  refine wpAnyL_take (i := 8) (oi := { dst := some 11, op := .load 92 (.tmp 10), type := _, pos := _, after := _, guard := none }) (v := ?_) rfl (by kernel_rfl) (by kernel_rfl) (by kernel_rfl) (fun _ _ _ h => h) (fun _ _ => Iff.rfl) hC (Or.inl ⟨by rfl, ?_⟩) hS (fun hC hS => ?_)
  rotate_left
  · intro W9 hSw; obtain ⟨_, _, _, _, q0⟩ := hSw; go_simp; try (with_reducible rfl)
  try simp only [Act.put, List.setIfInBounds_toArray, List.set_cons_zero, List.set_cons_succ]
  refine wpAnyL_ready (rs := [4]) (by kernel_rfl) (by simp) hC ?_
  refine AllReadyL.cons (o := { dst := some 7, op := .call { callee := .value (.func 121), args := #[.tmp 6], argTypes := #[27] }, type := _, pos := _, after := _, guard := none }) rfl (fun K9 hK => ?_) ?_
  · skip
    go_simp
    refine (dclone_st sa sn sc SS _ H20.out.drew hs).mono ?_
    rintro e w1 ⟨v1, rfl, ho1, hb1⟩
    have HB1 := Lib.hid (HB0.out.drew.trans (hb1.mono HB0.out.size))
    have HR1 := Lib.hid (blk_below (show v.drew.heap[w.heap.size]? = _ from HR0.out) hb1)
    have H31 := Lib.hid (H30.out.drew.below hb1)
    have HO1 := Lib.hid (ho1.mono (B' := w.heap.size) HB0.out.size)
    have HD01 : Hid (w1.cell? ⟨D, 0, none⟩ = some (.slice sa sn sc)) := Lib.hid ((hb1.cell (p := ⟨D, 0, none⟩) (by have := HB0.out.size; show D < v.heap.size; omega)).trans HD0.out)
    have HD11 : Hid (w1.cell? ⟨D, 1, none⟩ = some (.slice ca cn cc)) := Lib.hid ((hb1.cell (p := ⟨D, 1, none⟩) (by have := HB0.out.size; show D < v.heap.size; omega)).trans HD1.out)
    obtain ⟨A1, n1, c1, rfl⟩ := HO1.out.sl3
    clear ho1 hb1
    refine hK _ _ ⟨HD01.out, HD11.out⟩ (fun hC => ?_)
    clear hK K9
    try simp only [Act.put, List.setIfInBounds_toArray, List.set_cons_zero, List.set_cons_succ]
    refine wpAnyL_ready (rs := [9]) (by kernel_rfl) (by simp) hC ?_
    refine AllReadyL.cons (o := { dst := some 12, op := .call { callee := .value (.func 122), args := #[.tmp 11], argTypes := #[92] }, type := _, pos := _, after := _, guard := none }) rfl (fun K9 hK => ?_) ?_
    · skip
      go_simp
      refine (dclone_wr ca cn cc CC _ H31.out hc).mono ?_
      rintro e w2 ⟨v2, rfl, ho2, hb2⟩
      have HB2 := Lib.hid (HB1.out.trans (hb2.mono HB1.out.size))
      have HR2 := Lib.hid (blk_below HR1.out hb2)
      have HO12 := Lib.hid (HO1.out.kept hb2)
      have HO2 := Lib.hid (ho2.mono (B' := w.heap.size) HB1.out.size)
      have HD02 : Hid (w2.cell? ⟨D, 0, none⟩ = some (.slice sa sn sc)) := Lib.hid ((hb2.cell (p := ⟨D, 0, none⟩) (by have := HB1.out.size; show D < w1.heap.size; omega)).trans HD01.out)
      have HD12 : Hid (w2.cell? ⟨D, 1, none⟩ = some (.slice ca cn cc)) := Lib.hid ((hb2.cell (p := ⟨D, 1, none⟩) (by have := HB1.out.size; show D < w1.heap.size; omega)).trans HD11.out)
      obtain ⟨A2, n2, c2, rfl⟩ := HO2.out.sl3
      clear ho2 hb2
      refine hK _ _ ⟨HD02.out, HD12.out⟩ (fun hC => ?_)
      clear hK K9
      try simp only [Act.put, List.setIfInBounds_toArray, List.set_cons_zero, List.set_cons_succ]
      refine wpAnyL_take (i := 10) (oi := { dst := some 13, op := .build 97 #[(0, .tmp 7), (1, .tmp 12)], type := _, pos := _, after := _, guard := none }) (v := ?_) rfl (by kernel_rfl) (by kernel_rfl) (by kernel_rfl) (fun _ _ _ h => h) (fun _ _ => Iff.rfl) hC (Or.inl ⟨by rfl, ?_⟩) ⟨HD02.out, HD12.out⟩ (fun hC hS => ?_)
      rotate_left
      · intro W9 hSw; skip; go_simp; try (with_reducible rfl)
      try simp only [Act.put, List.setIfInBounds_toArray, List.set_cons_zero, List.set_cons_succ]
      refine wpAnyL_ready (rs := [11]) (by kernel_rfl) (by simp) hC ?_
      refine AllReadyL.cons (o := { dst := none, op := .store 97 (.tmp 2) (.tmp 13), type := _, pos := _, after := _, guard := none }) rfl (fun K9 hK => ?_) ?_
      · skip
        have y0 : w2.cell? ⟨w.heap.size, 0, none⟩ = some (.slice none 0 0) := (cell_of_row _ _ 0 _ _ _ HR2.out).trans rfl
        have y1 : w2.cell? ⟨w.heap.size, 1, none⟩ = some (.slice none 0 0) := (cell_of_row _ _ 1 _ _ _ HR2.out).trans rfl
        have f0 : w2.frozen? ⟨w.heap.size, 0, none⟩ = false := frozen_of_row _ _ _ _ _ HR2.out
        have f1 : w2.frozen? ⟨w.heap.size, 1, none⟩ = false := frozen_of_row _ _ _ _ _ HR2.out
        have hDn : ¬ D = w.heap.size := by omega
        go_simp
        have HK := Lib.hid (((KK.refl [w.heap.size] w2).set (b := w.heap.size) (by simp) 0 (.slice A1 n1 c1)).set (b := w.heap.size) (by simp) 1 (.slice A2 n2 c2))
        have HR3 := Lib.hid (show ((w2.setCell ⟨w.heap.size, 0, none⟩ (.slice A1 n1 c1)).setCell ⟨w.heap.size, 1, none⟩ (.slice A2 n2 c2)).heap[w.heap.size]? = some (.cells #[.slice A1 n1 c1, .slice A2 n2 c2] 97 (0, 0)) by have q := heap_setCell_at (i := 1) (u := .slice A2 n2 c2) (heap_setCell_at (i := 0) (u := .slice A1 n1 c1) HR2.out); exact q)
        have HO13 := Lib.hid (HO12.out.kkD HK.out HR2.out (by decide))
        have HO23 := Lib.hid (HO2.out.kkD HK.out HR2.out (by decide))
        have HB3 := Lib.hid (HK.out.below HB2.out (fun b hb => by obtain rfl : b = w.heap.size := (by simpa using hb); exact Nat.le_refl _) HB2.out.size)
        have z0 := (World.cell?_of_block (a := ⟨D, 0, none⟩) (HK.out.block D (by have := HB2.out.size; omega) (by simpa using hDn))).trans HD02.out
        have z1 := (World.cell?_of_block (a := ⟨D, 1, none⟩) (HK.out.block D (by have := HB2.out.size; omega) (by simpa using hDn))).trans HD12.out
        refine hK _ _ ⟨z0, z1⟩ (fun hC => ?_)
        clear hK K9
        try simp only [Act.put, List.setIfInBounds_toArray, List.set_cons_zero, List.set_cons_succ]
        refine wpAnyL_done (by kernel_rfl) ?_ _
        go_wp2_with fail
        refine bodyPost_ret (results_cY rfl _ _ w.heap.size #[.slice A1 n1 c1, .slice A2 n2 c2] rfl (run_loadVar_row _ w.heap.size 97 97 _ (0, 0) _ HR3.out Tryd.underlying97 rfl (by kernel_rfl))) rfl ?_
        exact ⟨A1, n1, c1, A2, n2, c2, rfl, HO13.out, HO23.out, HB3.out⟩
      exact AllReadyL.nil
    exact AllReadyL.nil
  exact AllReadyL.nil
end Go.Proofs.YtagenkofoacajaaDoor
