/- The disk family, merged for a claim. Conditions as in its parts. -/
import Derived.Test.YtiagbadnmkeokaaDNe
namespace Go.Proofs.Ytiagbadnmkeokaa
open Go.RowKit Vi

theorem dk_tail {D n : Nat} {SS : List ByteArray} {CC : List Wr} {dn : Bool} {ops fu : Int} {W : World} (h : DK D SS CC dn ops fu W) (hn : SS.length = n) :
    (∀ W', Below W.heap.size W W' → Calls Try.prog 23 #[.pointer (some ⟨D, 0, none⟩)] W' fun e w' => e = .returned (.bool dn) ∧ Below W'.heap.size W' w') ∧
    (∀ W', Below W.heap.size W W' → Calls Try.prog 28 #[.pointer (some ⟨D, 0, none⟩)] W' fun e w' => e = .returned (.int .i64 ops) ∧ Below W'.heap.size W' w') ∧
    (∀ W', Below W.heap.size W W' → Calls Try.prog 27 #[.pointer (some ⟨D, 0, none⟩)] W' fun e w' => e = .returned (.int .i64 (n : Int)) ∧ Below W'.heap.size W' w') := by
  obtain ⟨⟨sa, sn, sc, ca, cn, cc, h1, h2, h3⟩, h4⟩ := h
  obtain ⟨A', c', e, hr, _, _⟩ := h2.rd stC_len
  injection e with e1 e2 e3
  have hs : n = sn := by rw [← hn, hr.1, e2]
  subst hs
  exact ⟨fun W' hb => of_same (ddown_any D sa n sc ca cn cc dn ops fu W' (blk_below h1 hb)), fun W' hb => of_same (dops_any D sa n sc ca cn cc dn ops fu W' (blk_below h1 hb)), fun W' hb => of_same (dszz_any D sa n sc ca cn cc dn ops fu W' (blk_below h1 hb))⟩
set_option maxRecDepth 100000 in
set_option maxHeartbeats 4000000 in
theorem does1 (n0 : Nat) (w0 : World) (D : Nat) (d : Ds) (k : Nat) (A : Option Addr) (n c : Nat) (A2 : Option Addr) (n2 c2 : Nat) (a : Ac) (w : World) (h : DW n0 w0 D d w) (o : DsOk k d) (hk : k ≤ 1000) (h1 : RdA D stC 1 w A n d.S) (h2 : RdA D wrC 2 w A2 n2 d.C) (hs : a.t.size ≤ 140737488351232) (hkd : a.kd = 1) :
    Calls Try.prog 13 #[.pointer (some ⟨D, 0, none⟩), rdv A n c A2 n2 c2 d.ar d.go d.op, acV a] w (DoesP n0 w0 D (d.wrt a.at' (acT a)) w) := by
  obtain ⟨tx, htx⟩ : ∃ tx, tx = acT a := ⟨_, rfl⟩
  obtain ⟨d', hd'⟩ : ∃ d', d' = d.wrt a.at' (acT a) := ⟨_, rfl⟩
  obtain ⟨z, hz⟩ : ∃ z, z = d.wrE a.at' (acT a) := ⟨_, rfl⟩
  have HT := Lib.hid (fun W : World => atext_any a W hs)
  have HQ := Lib.hid (fun (W : World) (A : Option Addr) (n c : Nat) (A2 : Option Addr) (n2 c2 : Nat) (q : RV (fun b => ¬ InD D W b) d A n A2 n2 W) (hP : ∀ b, W.heap.size ≤ b → ¬ InD D W b) => qwrite (c := c) (c2 := c2) q o hk hP a.at' (acT a))
  have HP := Lib.hid (fun (W : World) (q : DW n0 w0 D d W) => pwrite q o hk a.at' (acT a))
  rw [← hd', ← hz] at HQ HP
  rw [← hd']
  rw [← htx] at HT HQ HP
  clear htx hd' hz
  obtain ⟨kd, at0, nn, t, rw1, ka, kn, kc, ks⟩ := a
  dsimp only at HT HQ HP hkd
  subst hkd
  have HZ0 := Lib.hid (bz_start (a := ⟨1, at0, nn, t, rw1, ka, kn, kc, ks⟩) (c := c) (c2 := c2) h h1 h2)
  obtain ⟨v, hv⟩ : ∃ v, v = (((w.alloc (.cells #[.slice A n c, .slice A2 n2 c2, .int .i64 d.ar, .bool d.go, .int .i64 d.op] 35 (0, 0))).alloc (.cells #[.int .i64 1, .int .i64 at0, .int .i64 nn, .string t, .bool rw1, .slice ka kn kc] 39 (0, 0))).alloc (.cells #[.slice none 0 0, .slice none 0 0, .int .i64 0, .bool false, .int .i64 0] 35 (0, 0))) := ⟨_, rfl⟩
  have HV := Lib.hid hv
  have HZ : Hid (Bz n0 w0 w D w.heap.size d d A n c A2 n2 c2 ⟨1, at0, nn, t, rw1, ka, kn, kc, ks⟩ v) := Lib.hid (by rw [hv]; exact HZ0.out)
  clear HZ0 hv h h1 h2
  go_enter Try.func13, Try.ntmps13
  go_upto_region 1 with (fail)
  rw [← HV.out]
  clear HV
  have hk0 : v.cell? ⟨w.heap.size + 1, 0, none⟩ = some (.int .i64 1) := (cell_of_row _ _ 0 _ _ _ HZ.out.ab).trans rfl
  go_upto_region 6 with (fail)
  clear hk0
  refine wp_region_L_drew (S := SB 9 w.heap.size (rdC A n c A2 n2 c2 d) #[.int .i64 1, .int .i64 at0, .int .i64 nn, .string t, .bool rw1, .slice ka kn kc]) (by kernel_rfl) ⟨HZ.out.ab, fun _ => HZ.out.rb⟩ (fun hS hC => ?_)
  have HZ := Lib.hid HZ.out.drew
  generalize v.drew = U at *
  refine wpAnyL_take (i := 0) (oi := { dst := some 27, op := .load 35 (.tmp 4), type := _, pos := _, after := _, guard := none }) (v := ?_) rfl (by kernel_rfl) (by kernel_rfl) (by kernel_rfl) (fun _ _ _ h => h) (SB.set (by decide)) hC (Or.inl ⟨by rfl, ?_⟩) hS (fun hC hS => ?_)
  rotate_left
  · intro W9 hSw; have q0 := (cell_of_row _ _ 0 _ _ _ (SB.rOf hSw 12 (by kernel_rfl))).trans rfl; have q1 := (cell_of_row _ _ 1 _ _ _ (SB.rOf hSw 12 (by kernel_rfl))).trans rfl; have q2 := (cell_of_row _ _ 2 _ _ _ (SB.rOf hSw 12 (by kernel_rfl))).trans rfl; have q3 := (cell_of_row _ _ 3 _ _ _ (SB.rOf hSw 12 (by kernel_rfl))).trans rfl; have q4 := (cell_of_row _ _ 4 _ _ _ (SB.rOf hSw 12 (by kernel_rfl))).trans rfl; go_simp; try (with_reducible rfl)
  try simp only [Act.put, List.setIfInBounds_toArray, List.set_cons_zero, List.set_cons_succ]
  refine wpAnyL_take (i := 1) (oi := { dst := some 28, op := .fieldAddr 39 (.tmp 5) 1, type := _, pos := _, after := _, guard := none }) (v := ?_) rfl (by kernel_rfl) (by kernel_rfl) (by kernel_rfl) (fun _ _ _ h => h) (SB.set (by decide)) hC (Or.inl ⟨by rfl, ?_⟩) hS (fun hC hS => ?_)
  rotate_left
  · intro W9 hSw; skip; go_simp; try (with_reducible rfl)
  try simp only [Act.put, List.setIfInBounds_toArray, List.set_cons_zero, List.set_cons_succ]
  refine wpAnyL_take (i := 2) (oi := { dst := some 29, op := .load 3 (.tmp 28), type := _, pos := _, after := _, guard := none }) (v := ?_) rfl (by kernel_rfl) (by kernel_rfl) (by kernel_rfl) (fun _ _ _ h => h) (SB.set (by decide)) hC (Or.inl ⟨by rfl, ?_⟩) hS (fun hC hS => ?_)
  rotate_left
  · intro W9 hSw; have q1 := (cell_of_row _ _ 1 _ _ _ (SB.aOf hSw)).trans rfl; go_simp; try (with_reducible rfl)
  try simp only [Act.put, List.setIfInBounds_toArray, List.set_cons_zero, List.set_cons_succ]
  refine wpAnyL_take (i := 3) (oi := { dst := some 30, op := .load 39 (.tmp 5), type := _, pos := _, after := _, guard := none }) (v := ?_) rfl (by kernel_rfl) (by kernel_rfl) (by kernel_rfl) (fun _ _ _ h => h) (SB.set (by decide)) hC (Or.inl ⟨by rfl, ?_⟩) hS (fun hC hS => ?_)
  rotate_left
  · intro W9 hSw; have q0 := (cell_of_row _ _ 0 _ _ _ (SB.aOf hSw)).trans rfl; have q1 := (cell_of_row _ _ 1 _ _ _ (SB.aOf hSw)).trans rfl; have q2 := (cell_of_row _ _ 2 _ _ _ (SB.aOf hSw)).trans rfl; have q3 := (cell_of_row _ _ 3 _ _ _ (SB.aOf hSw)).trans rfl; have q4 := (cell_of_row _ _ 4 _ _ _ (SB.aOf hSw)).trans rfl; have q5 := (cell_of_row _ _ 5 _ _ _ (SB.aOf hSw)).trans rfl; go_simp; try (with_reducible rfl)
  try simp only [Act.put, List.setIfInBounds_toArray, List.set_cons_zero, List.set_cons_succ]
  refine wpAnyL_ready (rs := [4]) (by kernel_rfl) (by simp) hC ?_
  refine AllReadyL.cons (o := { dst := some 31, op := .call { callee := .value (.func 21), args := #[.tmp 30], argTypes := #[39] }, type := _, pos := _, after := _, guard := none }) rfl (fun K9 hK => ?_) ?_
  · skip
    go_simp
    refine (HT.out _).mono ?_
    rintro e w4 ⟨rfl, hb4⟩
    have HZ4 := Lib.hid (HZ.out.kept hb4)
    clear hb4 HZ
    refine hK _ _ ⟨HZ4.out.ab, fun _ => HZ4.out.rb⟩ (fun hC => ?_)
    clear hK K9
    try simp only [Act.put, List.setIfInBounds_toArray, List.set_cons_zero, List.set_cons_succ]
    refine wpAnyL_ready (rs := [5]) (by kernel_rfl) (by simp) hC ?_
    refine AllReadyL.cons (o := { dst := some 32, op := .call { callee := .value (.func 45), args := #[.tmp 27, .tmp 29, .tmp 31], argTypes := #[35, 3, 9] }, type := _, pos := _, after := _, guard := none }) rfl (fun K9 hK => ?_) ?_
    · skip
      go_simp
      refine (HQ.out _ A n c A2 n2 c2 HZ4.out.rv HZ4.out.nw).mono ?_
      rintro e w5 ⟨vv, rfl, ⟨A9, n9, c9, B9, m9, k9, rfl, hs5, hc5⟩, hb5⟩
      have HZ5 := Lib.hid (HZ4.out.kept hb5)
      have HS5 := Lib.hid (hs5.rdA hb5 HZ4.out.dw.lt)
      have HC5 := Lib.hid (hc5.rdA hb5 HZ4.out.dw.lt)
      clear hs5 hc5 hb5 HZ4 HQ
      refine hK _ _ ⟨HZ5.out.ab, fun _ => HZ5.out.rb⟩ (fun hC => ?_)
      clear hK K9
      try simp only [Act.put, List.setIfInBounds_toArray, List.set_cons_zero, List.set_cons_succ]
      refine wpAnyL_take (i := 6) (oi := { dst := some 26, op := .move (.tmp 32), type := _, pos := _, after := _, guard := none }) (v := ?_) rfl (by kernel_rfl) (by kernel_rfl) (by kernel_rfl) (fun _ _ _ h => h) (SB.set (by decide)) hC (Or.inl ⟨by rfl, ?_⟩) ⟨HZ5.out.ab, fun _ => HZ5.out.rb⟩ (fun hC hS => ?_)
      rotate_left
      · intro W9 hSw; skip; go_simp; try (with_reducible rfl)
      try simp only [Act.put, List.setIfInBounds_toArray, List.set_cons_zero, List.set_cons_succ]
      refine wpAnyL_take (i := 7) (oi := { dst := some 33, op := .extract (.tmp 26) 0, type := _, pos := _, after := _, guard := none }) (v := ?_) rfl (by kernel_rfl) (by kernel_rfl) (by kernel_rfl) (fun _ _ _ h => h) (SB.set (by decide)) hC (Or.inl ⟨by rfl, ?_⟩) ⟨HZ5.out.ab, fun _ => HZ5.out.rb⟩ (fun hC hS => ?_)
      rotate_left
      · intro W9 hSw; skip; go_simp; try (with_reducible rfl)
      try simp only [Act.put, List.setIfInBounds_toArray, List.set_cons_zero, List.set_cons_succ]
      refine wpAnyL_take (i := 8) (oi := { dst := some 34, op := .extract (.tmp 26) 1, type := _, pos := _, after := _, guard := none }) (v := ?_) rfl (by kernel_rfl) (by kernel_rfl) (by kernel_rfl) (fun _ _ _ h => h) (SB.set (by decide)) hC (Or.inl ⟨by rfl, ?_⟩) ⟨HZ5.out.ab, fun _ => HZ5.out.rb⟩ (fun hC hS => ?_)
      rotate_left
      · intro W9 hSw; skip; go_simp; try (with_reducible rfl)
      try simp only [Act.put, List.setIfInBounds_toArray, List.set_cons_zero, List.set_cons_succ]
      refine wpAnyL_ready (rs := [9]) (by kernel_rfl) (by simp) hC ?_
      refine AllReadyL.cons (o := { dst := none, op := .store 35 (.tmp 4) (.tmp 33), type := _, pos := _, after := _, guard := none }) rfl (fun K9 hK => ?_) ?_
      · skip
        have y0 : (w5).cell? ⟨w.heap.size, 0, none⟩ = some (.slice A n c) := (cell_of_row _ _ 0 _ _ _ HZ5.out.rb).trans rfl
        have y1 : (w5).cell? ⟨w.heap.size, 1, none⟩ = some (.slice A2 n2 c2) := (cell_of_row _ _ 1 _ _ _ HZ5.out.rb).trans rfl
        have y2 : (w5).cell? ⟨w.heap.size, 2, none⟩ = some (.int .i64 d.ar) := (cell_of_row _ _ 2 _ _ _ HZ5.out.rb).trans rfl
        have y3 : (w5).cell? ⟨w.heap.size, 3, none⟩ = some (.bool d.go) := (cell_of_row _ _ 3 _ _ _ HZ5.out.rb).trans rfl
        have y4 : (w5).cell? ⟨w.heap.size, 4, none⟩ = some (.int .i64 d.op) := (cell_of_row _ _ 4 _ _ _ HZ5.out.rb).trans rfl
        have f0 : (w5).frozen? ⟨w.heap.size, 0, none⟩ = false := frozen_of_row _ _ _ _ _ HZ5.out.rb
        have f1 : (w5).frozen? ⟨w.heap.size, 1, none⟩ = false := frozen_of_row _ _ _ _ _ HZ5.out.rb
        have f2 : (w5).frozen? ⟨w.heap.size, 2, none⟩ = false := frozen_of_row _ _ _ _ _ HZ5.out.rb
        have f3 : (w5).frozen? ⟨w.heap.size, 3, none⟩ = false := frozen_of_row _ _ _ _ _ HZ5.out.rb
        have f4 : (w5).frozen? ⟨w.heap.size, 4, none⟩ = false := frozen_of_row _ _ _ _ _ HZ5.out.rb
        go_simp
        have HZ6 := Lib.hid (HZ5.out.stored (m := n9) (mc := c9) (m2 := m9) (k2 := k9) HS5.out HC5.out)
        clear y0 y1 y2 y3 y4 f0 f1 f2 f3 f4 HS5 HC5 HZ5
        generalize (((((w5.setCell ⟨w.heap.size, 0, none⟩ (.slice A9 n9 c9)).setCell ⟨w.heap.size, 1, none⟩ (.slice B9 m9 k9)).setCell ⟨w.heap.size, 2, none⟩ (.int .i64 d'.ar)).setCell ⟨w.heap.size, 3, none⟩ (.bool d'.go)).setCell ⟨w.heap.size, 4, none⟩ (.int .i64 d'.op)) = w6 at *
        refine hK _ _ ⟨HZ6.out.ab, fun q => absurd q (by decide)⟩ (fun hC => ?_)
        clear hK K9
        try simp only [Act.put, List.setIfInBounds_toArray, List.set_cons_zero, List.set_cons_succ]
        refine wpAnyL_take (i := 10) (oi := { dst := some 9, op := .assign (.tmp 34), type := _, pos := _, after := _, guard := none }) (v := ?_) rfl (by kernel_rfl) (by kernel_rfl) (by kernel_rfl) (fun _ _ _ h => h) (SB.set (by decide)) hC (Or.inl ⟨by rfl, ?_⟩) ⟨HZ6.out.ab, fun q => absurd q (by decide)⟩ (fun hC hS => ?_)
        rotate_left
        · intro W9 hSw; skip; go_simp; try (with_reducible rfl)
        try simp only [Act.put, List.setIfInBounds_toArray, List.set_cons_zero, List.set_cons_succ]
        refine wpAnyL_done (by kernel_rfl) ?_ _
        go_upto_region 7 with (fail)
        clear hS hC
        have HZ6 := Lib.hid HZ6.out.drew
        refine wp_region_L_drew (S := fun _ W => W.heap[w.heap.size + 1]? = some (.cells #[.int .i64 1, .int .i64 at0, .int .i64 nn, .string t, .bool rw1, .slice ka kn kc] 39 (0, 0))) (by kernel_rfl) HZ6.out.ab (fun hS hC => ?_)
        generalize w6.drew = u6 at *
        refine wpAnyL_take (i := 0) (oi := { dst := some 35, op := .move (.tmp 0), type := _, pos := _, after := _, guard := none }) (v := ?_) rfl (by kernel_rfl) (by kernel_rfl) (by kernel_rfl) (fun _ _ _ h => h) (fun _ _ => Iff.rfl) hC (Or.inl ⟨by rfl, ?_⟩) hS (fun hC hS => ?_)
        rotate_left
        · intro W9 hSw; skip; go_simp; try (with_reducible rfl)
        try simp only [Act.put, List.setIfInBounds_toArray, List.set_cons_zero, List.set_cons_succ]
        refine wpAnyL_take (i := 1) (oi := { dst := some 36, op := .fieldAddr 39 (.tmp 5) 1, type := _, pos := _, after := _, guard := none }) (v := ?_) rfl (by kernel_rfl) (by kernel_rfl) (by kernel_rfl) (fun _ _ _ h => h) (fun _ _ => Iff.rfl) hC (Or.inl ⟨by rfl, ?_⟩) hS (fun hC hS => ?_)
        rotate_left
        · intro W9 hSw; skip; go_simp; try (with_reducible rfl)
        try simp only [Act.put, List.setIfInBounds_toArray, List.set_cons_zero, List.set_cons_succ]
        refine wpAnyL_take (i := 2) (oi := { dst := some 37, op := .load 3 (.tmp 36), type := _, pos := _, after := _, guard := none }) (v := ?_) rfl (by kernel_rfl) (by kernel_rfl) (by kernel_rfl) (fun _ _ _ h => h) (fun _ _ => Iff.rfl) hC (Or.inl ⟨by rfl, ?_⟩) hS (fun hC hS => ?_)
        rotate_left
        · intro W9 hSw; have q1 := (cell_of_row _ _ 1 _ _ _ hSw.choose_spec.2.2).trans rfl; go_simp; try (with_reducible rfl)
        try simp only [Act.put, List.setIfInBounds_toArray, List.set_cons_zero, List.set_cons_succ]
        refine wpAnyL_take (i := 3) (oi := { dst := some 38, op := .load 39 (.tmp 5), type := _, pos := _, after := _, guard := none }) (v := ?_) rfl (by kernel_rfl) (by kernel_rfl) (by kernel_rfl) (fun _ _ _ h => h) (fun _ _ => Iff.rfl) hC (Or.inl ⟨by rfl, ?_⟩) hS (fun hC hS => ?_)
        rotate_left
        · intro W9 hSw; have q0 := (cell_of_row _ _ 0 _ _ _ hSw.choose_spec.2.2).trans rfl; have q1 := (cell_of_row _ _ 1 _ _ _ hSw.choose_spec.2.2).trans rfl; have q2 := (cell_of_row _ _ 2 _ _ _ hSw.choose_spec.2.2).trans rfl; have q3 := (cell_of_row _ _ 3 _ _ _ hSw.choose_spec.2.2).trans rfl; have q4 := (cell_of_row _ _ 4 _ _ _ hSw.choose_spec.2.2).trans rfl; have q5 := (cell_of_row _ _ 5 _ _ _ hSw.choose_spec.2.2).trans rfl; go_simp; try (with_reducible rfl)
        try simp only [Act.put, List.setIfInBounds_toArray, List.set_cons_zero, List.set_cons_succ]
        refine wpAnyL_ready (rs := [4]) (by kernel_rfl) (by simp) hC ?_
        refine AllReadyL.cons (o := { dst := some 39, op := .call { callee := .value (.func 21), args := #[.tmp 38], argTypes := #[39] }, type := _, pos := _, after := _, guard := none }) rfl (fun K9 hK => ?_) ?_
        · skip
          go_simp
          refine (HT.out _).mono ?_
          rintro e w7 ⟨rfl, hb7⟩
          have HZ7 := Lib.hid (HZ6.out.kept hb7)
          clear hb7 HZ6
          refine hK _ _ HZ7.out.ab (fun hC => ?_)
          clear hK K9
          try simp only [Act.put, List.setIfInBounds_toArray, List.set_cons_zero, List.set_cons_succ]
          refine wpAnyL_ready (rs := [5]) (by kernel_rfl) (by simp) hC ?_
          refine AllReadyL.cons (o := { dst := some 40, op := .call { callee := .value (.func 20), args := #[.tmp 35, .tmp 37, .tmp 39], argTypes := #[25, 3, 9] }, type := _, pos := _, after := _, guard := none }) rfl (fun K9 hK => ?_) ?_
          · skip
            go_simp
            refine (HP.out _ HZ7.out.dw).mono ?_
            rintro e w3 ⟨rfl, hd3, hk3⟩
            have HZ3 := Lib.hid (HZ7.out.prog hk3 hd3)
            clear hd3 hk3 HZ7 HP HT
            refine hK _ _ HZ3.out.ab (fun hC => ?_)
            clear hK K9
            try simp only [Act.put, List.setIfInBounds_toArray, List.set_cons_zero, List.set_cons_succ]
            refine wpAnyL_take (i := 6) (oi := { dst := some 8, op := .assign (.tmp 40), type := _, pos := _, after := _, guard := none }) (v := ?_) rfl (by kernel_rfl) (by kernel_rfl) (by kernel_rfl) (fun _ _ _ h => h) (fun _ _ => Iff.rfl) hC (Or.inl ⟨by rfl, ?_⟩) HZ3.out.ab (fun hC hS => ?_)
            rotate_left
            · intro W9 hSw; skip; go_simp; try (with_reducible rfl)
            try simp only [Act.put, List.setIfInBounds_toArray, List.set_cons_zero, List.set_cons_succ]
            refine wpAnyL_done (by kernel_rfl) ?_ _
            clear hS hC
            go_upto_region 27 with (fail)
            have HY0 := Lib.hid HZ3.out.drew
            refine wp_region_L_drew (S := fun _ W => W.heap[w.heap.size]? = some (.cells (rdC A9 n9 c9 B9 m9 k9 d') 35 (0, 0))) (by kernel_rfl) HY0.out.rb (fun hS hC => ?_)
            generalize w3.drew = v0 at *
            refine wpAnyL_take (i := 0) (oi := { dst := some 120, op := .load 35 (.tmp 4), type := _, pos := _, after := _, guard := none }) (v := ?_) rfl (by kernel_rfl) (by kernel_rfl) (by kernel_rfl) (fun _ _ _ h => h) (fun _ _ => Iff.rfl) hC (Or.inl ⟨by rfl, ?_⟩) hS (fun hC hS => ?_)
            rotate_left
            · intro W9 hSw; have q0 := (cell_of_row _ _ 0 _ _ _ hSw.choose_spec.2.2).trans rfl; have q1 := (cell_of_row _ _ 1 _ _ _ hSw.choose_spec.2.2).trans rfl; have q2 := (cell_of_row _ _ 2 _ _ _ hSw.choose_spec.2.2).trans rfl; have q3 := (cell_of_row _ _ 3 _ _ _ hSw.choose_spec.2.2).trans rfl; have q4 := (cell_of_row _ _ 4 _ _ _ hSw.choose_spec.2.2).trans rfl; go_simp; try (with_reducible rfl)
            try simp only [Act.put, List.setIfInBounds_toArray, List.set_cons_zero, List.set_cons_succ]
            refine wpAnyL_take (i := 1) (oi := { dst := some 121, op := .move (.tmp 8), type := _, pos := _, after := _, guard := none }) (v := ?_) rfl (by kernel_rfl) (by kernel_rfl) (by kernel_rfl) (fun _ _ _ h => h) (fun _ _ => Iff.rfl) hC (Or.inl ⟨by rfl, ?_⟩) hS (fun hC hS => ?_)
            rotate_left
            · intro W9 hSw; skip; go_simp; try (with_reducible rfl)
            try simp only [Act.put, List.setIfInBounds_toArray, List.set_cons_zero, List.set_cons_succ]
            refine wpAnyL_take (i := 2) (oi := { dst := some 122, op := .move (.tmp 9), type := _, pos := _, after := _, guard := none }) (v := ?_) rfl (by kernel_rfl) (by kernel_rfl) (by kernel_rfl) (fun _ _ _ h => h) (fun _ _ => Iff.rfl) hC (Or.inl ⟨by rfl, ?_⟩) hS (fun hC hS => ?_)
            rotate_left
            · intro W9 hSw; skip; go_simp; try (with_reducible rfl)
            try simp only [Act.put, List.setIfInBounds_toArray, List.set_cons_zero, List.set_cons_succ]
            refine wpAnyL_take (i := 3) (oi := { dst := some 123, op := .binOp .eql 3 (.tmp 121) (.tmp 122) 3, type := _, pos := _, after := _, guard := none }) (v := ?_) rfl (by kernel_rfl) (by kernel_rfl) (by kernel_rfl) (fun _ _ _ h => h) (fun _ _ => Iff.rfl) hC (Or.inl ⟨by rfl, ?_⟩) hS (fun hC hS => ?_)
            rotate_left
            · intro W9 hSw; skip; go_simp; try (with_reducible rfl)
            try simp only [Act.put, List.setIfInBounds_toArray, List.set_cons_zero, List.set_cons_succ]
            refine wpAnyL_take (i := 4) (oi := { dst := some 124, op := .move (.tmp 123), type := _, pos := _, after := _, guard := none }) (v := ?_) rfl (by kernel_rfl) (by kernel_rfl) (by kernel_rfl) (fun _ _ _ h => h) (fun _ _ => Iff.rfl) hC (Or.inl ⟨by rfl, ?_⟩) hS (fun hC hS => ?_)
            rotate_left
            · intro W9 hSw; skip; go_simp; try (with_reducible rfl)
            try simp only [Act.put, List.setIfInBounds_toArray, List.set_cons_zero, List.set_cons_succ]
            refine wpAnyL_take (i := 5) (oi := { dst := some 125, op := .move (.tmp 0), type := _, pos := _, after := _, guard := some (4, true) }) (v := ?_) rfl (by kernel_rfl) (by kernel_rfl) (by kernel_rfl) (fun _ _ _ h => h) (fun _ _ => Iff.rfl) hC (Or.inl ⟨by rfl, ?_⟩) hS (fun hC hS => ?_)
            rotate_left
            · intro W9 hSw; skip; go_simp; try (with_reducible rfl)
            try simp only [Act.put, List.setIfInBounds_toArray, List.set_cons_zero, List.set_cons_succ]
            refine wpAnyL_take (i := 7) (oi := { dst := some 127, op := .fieldAddr 35 (.tmp 4) 2, type := _, pos := _, after := _, guard := some (4, true) }) (v := ?_) rfl (by kernel_rfl) (by kernel_rfl) (by kernel_rfl) (fun _ _ _ h => h) (fun _ _ => Iff.rfl) hC (Or.inl ⟨by rfl, ?_⟩) hS (fun hC hS => ?_)
            rotate_left
            · intro W9 hSw; skip; go_simp; try (with_reducible rfl)
            try simp only [Act.put, List.setIfInBounds_toArray, List.set_cons_zero, List.set_cons_succ]
            refine wpAnyL_take (i := 8) (oi := { dst := some 128, op := .load 4 (.tmp 127), type := _, pos := _, after := _, guard := some (4, true) }) (v := ?_) rfl (by kernel_rfl) (by kernel_rfl) (by kernel_rfl) (fun _ _ _ h => h) (fun _ _ => Iff.rfl) hC (Or.inl ⟨by rfl, ?_⟩) hS (fun hC hS => ?_)
            rotate_left
            · intro W9 hSw; have q3 := (cell_of_row _ _ 3 _ _ _ hSw.choose_spec.2.2).trans rfl; go_simp; try (with_reducible rfl)
            try simp only [Act.put, List.setIfInBounds_toArray, List.set_cons_zero, List.set_cons_succ]
            refine wpAnyL_ready (rs := [6]) (by kernel_rfl) (by simp) hC ?_
            refine AllReadyL.cons (o := { dst := some 126, op := .call { callee := .value (.func 23), args := #[.tmp 125], argTypes := #[25] }, type := _, pos := _, after := _, guard := some (4, true) }) rfl (fun K9 hK => ?_) ?_
            · skip
              go_simp
              refine ((dk_tail HY0.out.dw.dk HY0.out.s.1.1).1 _ (Below.refl _ _)).mono ?_
              rintro e v1 ⟨rfl, hb8⟩
              have HY1 := Lib.hid (HY0.out.kept hb8)
              clear hb8 HY0
              refine hK _ _ HY1.out.rb (fun hC => ?_)
              clear hK K9
              try simp only [Act.put, List.setIfInBounds_toArray, List.set_cons_zero, List.set_cons_succ]
              refine wpAnyL_take (i := 9) (oi := { dst := some 129, op := .binOp .eql 4 (.tmp 126) (.tmp 128) 4, type := _, pos := _, after := _, guard := some (4, true) }) (v := ?_) rfl (by kernel_rfl) (by kernel_rfl) (by kernel_rfl) (fun _ _ _ h => h) (fun _ _ => Iff.rfl) hC (Or.inl ⟨by rfl, ?_⟩) HY1.out.rb (fun hC hS => ?_)
              rotate_left
              · intro W9 hSw; skip; go_simp; try (with_reducible rfl)
              try simp only [Act.put, List.setIfInBounds_toArray, List.set_cons_zero, List.set_cons_succ]
              refine wpAnyL_take (i := 10) (oi := { dst := some 130, op := .pick (.tmp 124) (.tmp 129) (.const (.bool false)), type := _, pos := _, after := _, guard := none }) (v := ?_) rfl (by kernel_rfl) (by kernel_rfl) (by kernel_rfl) (fun _ _ _ h => h) (fun _ _ => Iff.rfl) hC (Or.inl ⟨by rfl, ?_⟩) HY1.out.rb (fun hC hS => ?_)
              rotate_left
              · intro W9 hSw; skip; go_simp; try (with_reducible rfl)
              try simp only [Act.put, List.setIfInBounds_toArray, List.set_cons_zero, List.set_cons_succ]
              refine wpAnyL_take (i := 11) (oi := { dst := some 131, op := .move (.tmp 130), type := _, pos := _, after := _, guard := none }) (v := ?_) rfl (by kernel_rfl) (by kernel_rfl) (by kernel_rfl) (fun _ _ _ h => h) (fun _ _ => Iff.rfl) hC (Or.inl ⟨by rfl, ?_⟩) HY1.out.rb (fun hC hS => ?_)
              rotate_left
              · intro W9 hSw; skip; go_simp; try (with_reducible rfl)
              try simp only [Act.put, List.setIfInBounds_toArray, List.set_cons_zero, List.set_cons_succ]
              refine wpAnyL_take (i := 12) (oi := { dst := some 132, op := .move (.tmp 0), type := _, pos := _, after := _, guard := some (11, true) }) (v := ?_) rfl (by kernel_rfl) (by kernel_rfl) (by kernel_rfl) (fun _ _ _ h => h) (fun _ _ => Iff.rfl) hC (Or.inl ⟨by rfl, ?_⟩) HY1.out.rb (fun hC hS => ?_)
              rotate_left
              · intro W9 hSw; skip; go_simp; try (with_reducible rfl)
              try simp only [Act.put, List.setIfInBounds_toArray, List.set_cons_zero, List.set_cons_succ]
              refine wpAnyL_take (i := 14) (oi := { dst := some 134, op := .fieldAddr 35 (.tmp 4) 3, type := _, pos := _, after := _, guard := some (11, true) }) (v := ?_) rfl (by kernel_rfl) (by kernel_rfl) (by kernel_rfl) (fun _ _ _ h => h) (fun _ _ => Iff.rfl) hC (Or.inl ⟨by rfl, ?_⟩) HY1.out.rb (fun hC hS => ?_)
              rotate_left
              · intro W9 hSw; skip; go_simp; try (with_reducible rfl)
              try simp only [Act.put, List.setIfInBounds_toArray, List.set_cons_zero, List.set_cons_succ]
              refine wpAnyL_take (i := 15) (oi := { dst := some 135, op := .load 3 (.tmp 134), type := _, pos := _, after := _, guard := some (11, true) }) (v := ?_) rfl (by kernel_rfl) (by kernel_rfl) (by kernel_rfl) (fun _ _ _ h => h) (fun _ _ => Iff.rfl) hC (Or.inl ⟨by rfl, ?_⟩) HY1.out.rb (fun hC hS => ?_)
              rotate_left
              · intro W9 hSw; have q4 := (cell_of_row _ _ 4 _ _ _ hSw.choose_spec.2.2).trans rfl; go_simp; try (with_reducible rfl)
              try simp only [Act.put, List.setIfInBounds_toArray, List.set_cons_zero, List.set_cons_succ]
              refine wpAnyL_ready (rs := [13]) (by kernel_rfl) (by simp) hC ?_
              refine AllReadyL.cons (o := { dst := some 133, op := .call { callee := .value (.func 28), args := #[.tmp 132], argTypes := #[25] }, type := _, pos := _, after := _, guard := some (11, true) }) rfl (fun K9 hK => ?_) ?_
              · skip
                go_simp
                refine ((dk_tail HY1.out.dw.dk HY1.out.s.1.1).2.1 _ (Below.refl _ _)).mono ?_
                rintro e v2 ⟨rfl, hb8⟩
                have HY2 := Lib.hid (HY1.out.kept hb8)
                clear hb8 HY1
                refine hK _ _ HY2.out.rb (fun hC => ?_)
                clear hK K9
                try simp only [Act.put, List.setIfInBounds_toArray, List.set_cons_zero, List.set_cons_succ]
                refine wpAnyL_take (i := 16) (oi := { dst := some 136, op := .binOp .eql 3 (.tmp 133) (.tmp 135) 3, type := _, pos := _, after := _, guard := some (11, true) }) (v := ?_) rfl (by kernel_rfl) (by kernel_rfl) (by kernel_rfl) (fun _ _ _ h => h) (fun _ _ => Iff.rfl) hC (Or.inl ⟨by rfl, ?_⟩) HY2.out.rb (fun hC hS => ?_)
                rotate_left
                · intro W9 hSw; skip; go_simp; try (with_reducible rfl)
                try simp only [Act.put, List.setIfInBounds_toArray, List.set_cons_zero, List.set_cons_succ]
                refine wpAnyL_take (i := 17) (oi := { dst := some 137, op := .pick (.tmp 131) (.tmp 136) (.const (.bool false)), type := _, pos := _, after := _, guard := none }) (v := ?_) rfl (by kernel_rfl) (by kernel_rfl) (by kernel_rfl) (fun _ _ _ h => h) (fun _ _ => Iff.rfl) hC (Or.inl ⟨by rfl, ?_⟩) HY2.out.rb (fun hC hS => ?_)
                rotate_left
                · intro W9 hSw; skip; go_simp; try (with_reducible rfl)
                try simp only [Act.put, List.setIfInBounds_toArray, List.set_cons_zero, List.set_cons_succ]
                refine wpAnyL_take (i := 18) (oi := { dst := some 138, op := .move (.tmp 137), type := _, pos := _, after := _, guard := none }) (v := ?_) rfl (by kernel_rfl) (by kernel_rfl) (by kernel_rfl) (fun _ _ _ h => h) (fun _ _ => Iff.rfl) hC (Or.inl ⟨by rfl, ?_⟩) HY2.out.rb (fun hC hS => ?_)
                rotate_left
                · intro W9 hSw; skip; go_simp; try (with_reducible rfl)
                try simp only [Act.put, List.setIfInBounds_toArray, List.set_cons_zero, List.set_cons_succ]
                refine wpAnyL_take (i := 19) (oi := { dst := some 139, op := .move (.tmp 0), type := _, pos := _, after := _, guard := some (18, true) }) (v := ?_) rfl (by kernel_rfl) (by kernel_rfl) (by kernel_rfl) (fun _ _ _ h => h) (fun _ _ => Iff.rfl) hC (Or.inl ⟨by rfl, ?_⟩) HY2.out.rb (fun hC hS => ?_)
                rotate_left
                · intro W9 hSw; skip; go_simp; try (with_reducible rfl)
                try simp only [Act.put, List.setIfInBounds_toArray, List.set_cons_zero, List.set_cons_succ]
                refine wpAnyL_take (i := 21) (oi := { dst := some 141, op := .fieldAddr 35 (.tmp 4) 0, type := _, pos := _, after := _, guard := some (18, true) }) (v := ?_) rfl (by kernel_rfl) (by kernel_rfl) (by kernel_rfl) (fun _ _ _ h => h) (fun _ _ => Iff.rfl) hC (Or.inl ⟨by rfl, ?_⟩) HY2.out.rb (fun hC hS => ?_)
                rotate_left
                · intro W9 hSw; skip; go_simp; try (with_reducible rfl)
                try simp only [Act.put, List.setIfInBounds_toArray, List.set_cons_zero, List.set_cons_succ]
                refine wpAnyL_take (i := 22) (oi := { dst := some 142, op := .fieldAddr 32 (.tmp 141) 0, type := _, pos := _, after := _, guard := some (18, true) }) (v := ?_) rfl (by kernel_rfl) (by kernel_rfl) (by kernel_rfl) (fun _ _ _ h => h) (fun _ _ => Iff.rfl) hC (Or.inl ⟨by rfl, ?_⟩) HY2.out.rb (fun hC hS => ?_)
                rotate_left
                · intro W9 hSw; skip; go_simp; try (with_reducible rfl)
                try simp only [Act.put, List.setIfInBounds_toArray, List.set_cons_zero, List.set_cons_succ]
                refine wpAnyL_take (i := 23) (oi := { dst := some 143, op := .load 29 (.tmp 142), type := _, pos := _, after := _, guard := some (18, true) }) (v := ?_) rfl (by kernel_rfl) (by kernel_rfl) (by kernel_rfl) (fun _ _ _ h => h) (fun _ _ => Iff.rfl) hC (Or.inl ⟨by rfl, ?_⟩) HY2.out.rb (fun hC hS => ?_)
                rotate_left
                · intro W9 hSw; have q0 := (cell_of_row _ _ 0 _ _ _ hSw.choose_spec.2.2).trans rfl; go_simp; try (with_reducible rfl)
                try simp only [Act.put, List.setIfInBounds_toArray, List.set_cons_zero, List.set_cons_succ]
                refine wpAnyL_take (i := 24) (oi := { dst := some 144, op := .call { callee := .builtin .len, args := #[.tmp 143], argTypes := #[29] }, type := _, pos := _, after := _, guard := some (18, true) }) (v := ?_) rfl (by kernel_rfl) (by kernel_rfl) (by kernel_rfl) (fun _ _ _ h => h) (fun _ _ => Iff.rfl) hC (Or.inl ⟨by rfl, ?_⟩) HY2.out.rb (fun hC hS => ?_)
                rotate_left
                · intro W9 hSw; skip; go_simp; try (with_reducible rfl)
                try simp only [Act.put, List.setIfInBounds_toArray, List.set_cons_zero, List.set_cons_succ]
                refine wpAnyL_ready (rs := [20]) (by kernel_rfl) (by simp) hC ?_
                refine AllReadyL.cons (o := { dst := some 140, op := .call { callee := .value (.func 27), args := #[.tmp 139], argTypes := #[25] }, type := _, pos := _, after := _, guard := some (18, true) }) rfl (fun K9 hK => ?_) ?_
                · skip
                  go_simp
                  refine ((dk_tail HY2.out.dw.dk HY2.out.s.1.1).2.2 _ (Below.refl _ _)).mono ?_
                  rintro e v3 ⟨rfl, hb8⟩
                  have HY3 := Lib.hid (HY2.out.kept hb8)
                  clear hb8 HY2
                  refine hK _ _ HY3.out.rb (fun hC => ?_)
                  clear hK K9
                  try simp only [Act.put, List.setIfInBounds_toArray, List.set_cons_zero, List.set_cons_succ]
                  refine wpAnyL_take (i := 25) (oi := { dst := some 145, op := .binOp .eql 3 (.tmp 140) (.tmp 144) 3, type := _, pos := _, after := _, guard := some (18, true) }) (v := ?_) rfl (by kernel_rfl) (by kernel_rfl) (by kernel_rfl) (fun _ _ _ h => h) (fun _ _ => Iff.rfl) hC (Or.inl ⟨by rfl, ?_⟩) HY3.out.rb (fun hC hS => ?_)
                  rotate_left
                  · intro W9 hSw; skip; go_simp; try (with_reducible rfl)
                  try simp only [Act.put, List.setIfInBounds_toArray, List.set_cons_zero, List.set_cons_succ]
                  refine wpAnyL_take (i := 26) (oi := { dst := some 146, op := .pick (.tmp 138) (.tmp 145) (.const (.bool false)), type := _, pos := _, after := _, guard := none }) (v := ?_) rfl (by kernel_rfl) (by kernel_rfl) (by kernel_rfl) (fun _ _ _ h => h) (fun _ _ => Iff.rfl) hC (Or.inl ⟨by rfl, ?_⟩) HY3.out.rb (fun hC hS => ?_)
                  rotate_left
                  · intro W9 hSw; skip; go_simp; try (with_reducible rfl)
                  try simp only [Act.put, List.setIfInBounds_toArray, List.set_cons_zero, List.set_cons_succ]
                  refine wpAnyL_ready (rs := [27]) (by kernel_rfl) (by simp) hC ?_
                  refine AllReadyL.cons (o := { dst := none, op := .store 35 (.tmp 6) (.tmp 120), type := _, pos := _, after := _, guard := none }) rfl (fun K9 hK => ?_) ?_
                  · skip
                    have y0 : v3.cell? ⟨w.heap.size + 2, 0, none⟩ = some (.slice none 0 0) := (cell_of_row _ _ 0 _ _ _ HY3.out.qb).trans rfl
                    have y1 : v3.cell? ⟨w.heap.size + 2, 1, none⟩ = some (.slice none 0 0) := (cell_of_row _ _ 1 _ _ _ HY3.out.qb).trans rfl
                    have y2 : v3.cell? ⟨w.heap.size + 2, 2, none⟩ = some (.int .i64 0) := (cell_of_row _ _ 2 _ _ _ HY3.out.qb).trans rfl
                    have y3 : v3.cell? ⟨w.heap.size + 2, 3, none⟩ = some (.bool false) := (cell_of_row _ _ 3 _ _ _ HY3.out.qb).trans rfl
                    have y4 : v3.cell? ⟨w.heap.size + 2, 4, none⟩ = some (.int .i64 0) := (cell_of_row _ _ 4 _ _ _ HY3.out.qb).trans rfl
                    have f0 : v3.frozen? ⟨w.heap.size + 2, 0, none⟩ = false := frozen_of_row _ _ _ _ _ HY3.out.qb
                    have f1 : v3.frozen? ⟨w.heap.size + 2, 1, none⟩ = false := frozen_of_row _ _ _ _ _ HY3.out.qb
                    have f2 : v3.frozen? ⟨w.heap.size + 2, 2, none⟩ = false := frozen_of_row _ _ _ _ _ HY3.out.qb
                    have f3 : v3.frozen? ⟨w.heap.size + 2, 3, none⟩ = false := frozen_of_row _ _ _ _ _ HY3.out.qb
                    have f4 : v3.frozen? ⟨w.heap.size + 2, 4, none⟩ = false := frozen_of_row _ _ _ _ _ HY3.out.qb
                    go_simp
                    obtain ⟨v9, hv9⟩ : ∃ v9, v9 = (((((v3.setCell ⟨w.heap.size + 2, 0, none⟩ (.slice A9 n9 c9)).setCell ⟨w.heap.size + 2, 1, none⟩ (.slice B9 m9 k9)).setCell ⟨w.heap.size + 2, 2, none⟩ (.int .i64 d'.ar)).setCell ⟨w.heap.size + 2, 3, none⟩ (.bool d'.go)).setCell ⟨w.heap.size + 2, 4, none⟩ (.int .i64 d'.op)) := ⟨_, rfl⟩
                    have HG := Lib.hid (HY3.out.done v9 hv9)
                    rw [← hv9]
                    clear y0 y1 y2 y3 y4 f0 f1 f2 f3 f4 hv9
                    refine hK _ _ HG.out.2.2.2.2.2 (fun hC => ?_)
                    clear hK K9
                    try simp only [Act.put, List.setIfInBounds_toArray, List.set_cons_zero, List.set_cons_succ]
                    refine wpAnyL_take (i := 28) (oi := { dst := some 7, op := .assign (.tmp 146), type := _, pos := _, after := _, guard := none }) (v := ?_) rfl (by kernel_rfl) (by kernel_rfl) (by kernel_rfl) (fun _ _ _ h => h) (fun _ _ => Iff.rfl) hC (Or.inl ⟨by rfl, ?_⟩) HG.out.2.2.2.2.2 (fun hC hS => ?_)
                    rotate_left
                    · intro W9 hSw; skip; go_simp; try (with_reducible rfl)
                    try simp only [Act.put, List.setIfInBounds_toArray, List.set_cons_zero, List.set_cons_succ]
                    refine wpAnyL_done (by kernel_rfl) ?_ _
                    go_wp2_with fail
                    refine bodyPost_ret (results_ctY rfl _ _ (w.heap.size + 2) #[.slice A9 n9 c9, .slice B9 m9 k9, .int .i64 d'.ar, .bool d'.go, .int .i64 d'.op] rfl (run_loadVar_row _ (w.heap.size + 2) 35 35 _ (0, 0) _ HG.out.2.2.2.2.1 Try.underlying35 rfl (by kernel_rfl))) rfl ?_
                    exact ⟨_, _, _, _, _, _, rfl, HG.out.1, HG.out.2.1, HG.out.2.2.1, HG.out.2.2.2.1⟩
                  exact AllReadyL.nil
                exact AllReadyL.nil
              exact AllReadyL.nil
            exact AllReadyL.nil
          exact AllReadyL.nil
        exact AllReadyL.nil
      exact AllReadyL.nil
    exact AllReadyL.nil
  exact AllReadyL.nil
end Go.Proofs.Ytiagbadnmkeokaa

namespace Go.Proofs.Ytiagbadnmkeokaa
open Go.RowKit Vi

set_option maxRecDepth 100000 in
set_option maxHeartbeats 4000000 in
theorem does3 (n0 : Nat) (w0 : World) (D : Nat) (d : Ds) (k : Nat) (A : Option Addr) (n c : Nat) (A2 : Option Addr) (n2 c2 : Nat) (a : Ac) (w : World) (h : DW n0 w0 D d w) (o : DsOk k d) (hk : k ≤ 1000) (h1 : RdA D stC 1 w A n d.S) (h2 : RdA D wrC 2 w A2 n2 d.C) (hs : a.t.size ≤ 140737488351232) (hkd : a.kd = 3) :
    Calls Try.prog 13 #[.pointer (some ⟨D, 0, none⟩), rdv A n c A2 n2 c2 d.ar d.go d.op, acV a] w (DoesP n0 w0 D (d.fls) w) := by
  obtain ⟨d', hd'⟩ : ∃ d', d' = d.fls := ⟨_, rfl⟩
  obtain ⟨z, hz⟩ : ∃ z, z = d.flE := ⟨_, rfl⟩
  have HOK := Lib.hid h.dk.at'
  have HQ := Lib.hid (fun (W : World) (A : Option Addr) (n c : Nat) (A2 : Option Addr) (n2 c2 : Nat) (q : RV (fun b => ¬ InD D W b) d A n A2 n2 W) (hP : ∀ b, W.heap.size ≤ b → ¬ InD D W b) => qflush (c := c) (c2 := c2) q o hk hP HOK.out)
  have HP := Lib.hid (fun (W : World) (q : DW n0 w0 D d W) => pflush q o hk)
  rw [← hd', ← hz] at HQ HP
  rw [← hd']
  clear hd' hz HOK
  obtain ⟨kd, at0, nn, t, rw1, ka, kn, kc, ks⟩ := a
  dsimp only at HQ HP hkd
  subst hkd
  have HZ0 := Lib.hid (bz_start (a := ⟨3, at0, nn, t, rw1, ka, kn, kc, ks⟩) (c := c) (c2 := c2) h h1 h2)
  obtain ⟨v, hv⟩ : ∃ v, v = (((w.alloc (.cells #[.slice A n c, .slice A2 n2 c2, .int .i64 d.ar, .bool d.go, .int .i64 d.op] 35 (0, 0))).alloc (.cells #[.int .i64 3, .int .i64 at0, .int .i64 nn, .string t, .bool rw1, .slice ka kn kc] 39 (0, 0))).alloc (.cells #[.slice none 0 0, .slice none 0 0, .int .i64 0, .bool false, .int .i64 0] 35 (0, 0))) := ⟨_, rfl⟩
  have HV := Lib.hid hv
  have HZ : Hid (Bz n0 w0 w D w.heap.size d d A n c A2 n2 c2 ⟨3, at0, nn, t, rw1, ka, kn, kc, ks⟩ v) := Lib.hid (by rw [hv]; exact HZ0.out)
  clear HZ0 hv h h1 h2
  go_enter Try.func13, Try.ntmps13
  go_upto_region 1 with (fail)
  rw [← HV.out]
  clear HV
  have hk0 : v.cell? ⟨w.heap.size + 1, 0, none⟩ = some (.int .i64 3) := (cell_of_row _ _ 0 _ _ _ HZ.out.ab).trans rfl
  go_upto_region 15 with (fail)
  clear hk0
  have y0 : v.cell? ⟨w.heap.size, 0, none⟩ = some (.slice A n c) := (cell_of_row _ _ 0 _ _ _ HZ.out.rb).trans rfl
  have y1 : v.cell? ⟨w.heap.size, 1, none⟩ = some (.slice A2 n2 c2) := (cell_of_row _ _ 1 _ _ _ HZ.out.rb).trans rfl
  have y2 : v.cell? ⟨w.heap.size, 2, none⟩ = some (.int .i64 d.ar) := (cell_of_row _ _ 2 _ _ _ HZ.out.rb).trans rfl
  have y3 : v.cell? ⟨w.heap.size, 3, none⟩ = some (.bool d.go) := (cell_of_row _ _ 3 _ _ _ HZ.out.rb).trans rfl
  have y4 : v.cell? ⟨w.heap.size, 4, none⟩ = some (.int .i64 d.op) := (cell_of_row _ _ 4 _ _ _ HZ.out.rb).trans rfl
  go_wp2_with fail
  refine (HQ.out _ A n c A2 n2 c2 HZ.out.rv HZ.out.nw).mono ?_
  rintro e w5 ⟨vv, rfl, ⟨A9, n9, c9, B9, m9, k9, rfl, hs5, hc5⟩, hb5⟩
  have HZ5 := Lib.hid (HZ.out.kept hb5)
  have HS5 := Lib.hid (hs5.rdA hb5 HZ.out.dw.lt)
  have HC5 := Lib.hid (hc5.rdA hb5 HZ.out.dw.lt)
  clear hs5 hc5 hb5 HZ HQ
  clear y0 y1 y2 y3 y4
  have y0 : w5.cell? ⟨w.heap.size, 0, none⟩ = some (.slice A n c) := (cell_of_row _ _ 0 _ _ _ HZ5.out.rb).trans rfl
  have y1 : w5.cell? ⟨w.heap.size, 1, none⟩ = some (.slice A2 n2 c2) := (cell_of_row _ _ 1 _ _ _ HZ5.out.rb).trans rfl
  have y2 : w5.cell? ⟨w.heap.size, 2, none⟩ = some (.int .i64 d.ar) := (cell_of_row _ _ 2 _ _ _ HZ5.out.rb).trans rfl
  have y3 : w5.cell? ⟨w.heap.size, 3, none⟩ = some (.bool d.go) := (cell_of_row _ _ 3 _ _ _ HZ5.out.rb).trans rfl
  have y4 : w5.cell? ⟨w.heap.size, 4, none⟩ = some (.int .i64 d.op) := (cell_of_row _ _ 4 _ _ _ HZ5.out.rb).trans rfl
  have f0 : w5.frozen? ⟨w.heap.size, 0, none⟩ = false := frozen_of_row _ _ _ _ _ HZ5.out.rb
  have f1 : w5.frozen? ⟨w.heap.size, 1, none⟩ = false := frozen_of_row _ _ _ _ _ HZ5.out.rb
  have f2 : w5.frozen? ⟨w.heap.size, 2, none⟩ = false := frozen_of_row _ _ _ _ _ HZ5.out.rb
  have f3 : w5.frozen? ⟨w.heap.size, 3, none⟩ = false := frozen_of_row _ _ _ _ _ HZ5.out.rb
  have f4 : w5.frozen? ⟨w.heap.size, 4, none⟩ = false := frozen_of_row _ _ _ _ _ HZ5.out.rb
  go_upto_region 16 with (fail)
  have HZ6 := Lib.hid (HZ5.out.stored (m := n9) (mc := c9) (m2 := m9) (k2 := k9) HS5.out HC5.out)
  clear y0 y1 y2 y3 y4 f0 f1 f2 f3 f4 HS5 HC5 HZ5
  generalize (((((w5.setCell ⟨w.heap.size, 0, none⟩ (.slice A9 n9 c9)).setCell ⟨w.heap.size, 1, none⟩ (.slice B9 m9 k9)).setCell ⟨w.heap.size, 2, none⟩ (.int .i64 d'.ar)).setCell ⟨w.heap.size, 3, none⟩ (.bool d'.go)).setCell ⟨w.heap.size, 4, none⟩ (.int .i64 d'.op)) = w6 at *
  go_wp2_with fail
  refine (HP.out _ HZ6.out.dw).mono ?_
  rintro e w3 ⟨rfl, hd3, hk3⟩
  have HZ3 := Lib.hid (HZ6.out.prog hk3 hd3)
  clear hd3 hk3 HZ6 HP
  go_upto_region 27 with (fail)
  have HY0 := Lib.hid HZ3.out.drew
  refine wp_region_L_drew (S := fun _ W => W.heap[w.heap.size]? = some (.cells (rdC A9 n9 c9 B9 m9 k9 d') 35 (0, 0))) (by kernel_rfl) HY0.out.rb (fun hS hC => ?_)
  generalize w3.drew = v0 at *
  refine wpAnyL_take (i := 0) (oi := { dst := some 120, op := .load 35 (.tmp 4), type := _, pos := _, after := _, guard := none }) (v := ?_) rfl (by kernel_rfl) (by kernel_rfl) (by kernel_rfl) (fun _ _ _ h => h) (fun _ _ => Iff.rfl) hC (Or.inl ⟨by rfl, ?_⟩) hS (fun hC hS => ?_)
  rotate_left
  · intro W9 hSw; have q0 := (cell_of_row _ _ 0 _ _ _ hSw.choose_spec.2.2).trans rfl; have q1 := (cell_of_row _ _ 1 _ _ _ hSw.choose_spec.2.2).trans rfl; have q2 := (cell_of_row _ _ 2 _ _ _ hSw.choose_spec.2.2).trans rfl; have q3 := (cell_of_row _ _ 3 _ _ _ hSw.choose_spec.2.2).trans rfl; have q4 := (cell_of_row _ _ 4 _ _ _ hSw.choose_spec.2.2).trans rfl; go_simp; try (with_reducible rfl)
  try simp only [Act.put, List.setIfInBounds_toArray, List.set_cons_zero, List.set_cons_succ]
  refine wpAnyL_take (i := 1) (oi := { dst := some 121, op := .move (.tmp 8), type := _, pos := _, after := _, guard := none }) (v := ?_) rfl (by kernel_rfl) (by kernel_rfl) (by kernel_rfl) (fun _ _ _ h => h) (fun _ _ => Iff.rfl) hC (Or.inl ⟨by rfl, ?_⟩) hS (fun hC hS => ?_)
  rotate_left
  · intro W9 hSw; skip; go_simp; try (with_reducible rfl)
  try simp only [Act.put, List.setIfInBounds_toArray, List.set_cons_zero, List.set_cons_succ]
  refine wpAnyL_take (i := 2) (oi := { dst := some 122, op := .move (.tmp 9), type := _, pos := _, after := _, guard := none }) (v := ?_) rfl (by kernel_rfl) (by kernel_rfl) (by kernel_rfl) (fun _ _ _ h => h) (fun _ _ => Iff.rfl) hC (Or.inl ⟨by rfl, ?_⟩) hS (fun hC hS => ?_)
  rotate_left
  · intro W9 hSw; skip; go_simp; try (with_reducible rfl)
  try simp only [Act.put, List.setIfInBounds_toArray, List.set_cons_zero, List.set_cons_succ]
  refine wpAnyL_take (i := 3) (oi := { dst := some 123, op := .binOp .eql 3 (.tmp 121) (.tmp 122) 3, type := _, pos := _, after := _, guard := none }) (v := ?_) rfl (by kernel_rfl) (by kernel_rfl) (by kernel_rfl) (fun _ _ _ h => h) (fun _ _ => Iff.rfl) hC (Or.inl ⟨by rfl, ?_⟩) hS (fun hC hS => ?_)
  rotate_left
  · intro W9 hSw; skip; go_simp; try (with_reducible rfl)
  try simp only [Act.put, List.setIfInBounds_toArray, List.set_cons_zero, List.set_cons_succ]
  refine wpAnyL_take (i := 4) (oi := { dst := some 124, op := .move (.tmp 123), type := _, pos := _, after := _, guard := none }) (v := ?_) rfl (by kernel_rfl) (by kernel_rfl) (by kernel_rfl) (fun _ _ _ h => h) (fun _ _ => Iff.rfl) hC (Or.inl ⟨by rfl, ?_⟩) hS (fun hC hS => ?_)
  rotate_left
  · intro W9 hSw; skip; go_simp; try (with_reducible rfl)
  try simp only [Act.put, List.setIfInBounds_toArray, List.set_cons_zero, List.set_cons_succ]
  refine wpAnyL_take (i := 5) (oi := { dst := some 125, op := .move (.tmp 0), type := _, pos := _, after := _, guard := some (4, true) }) (v := ?_) rfl (by kernel_rfl) (by kernel_rfl) (by kernel_rfl) (fun _ _ _ h => h) (fun _ _ => Iff.rfl) hC (Or.inl ⟨by rfl, ?_⟩) hS (fun hC hS => ?_)
  rotate_left
  · intro W9 hSw; skip; go_simp; try (with_reducible rfl)
  try simp only [Act.put, List.setIfInBounds_toArray, List.set_cons_zero, List.set_cons_succ]
  refine wpAnyL_take (i := 7) (oi := { dst := some 127, op := .fieldAddr 35 (.tmp 4) 2, type := _, pos := _, after := _, guard := some (4, true) }) (v := ?_) rfl (by kernel_rfl) (by kernel_rfl) (by kernel_rfl) (fun _ _ _ h => h) (fun _ _ => Iff.rfl) hC (Or.inl ⟨by rfl, ?_⟩) hS (fun hC hS => ?_)
  rotate_left
  · intro W9 hSw; skip; go_simp; try (with_reducible rfl)
  try simp only [Act.put, List.setIfInBounds_toArray, List.set_cons_zero, List.set_cons_succ]
  refine wpAnyL_take (i := 8) (oi := { dst := some 128, op := .load 4 (.tmp 127), type := _, pos := _, after := _, guard := some (4, true) }) (v := ?_) rfl (by kernel_rfl) (by kernel_rfl) (by kernel_rfl) (fun _ _ _ h => h) (fun _ _ => Iff.rfl) hC (Or.inl ⟨by rfl, ?_⟩) hS (fun hC hS => ?_)
  rotate_left
  · intro W9 hSw; have q3 := (cell_of_row _ _ 3 _ _ _ hSw.choose_spec.2.2).trans rfl; go_simp; try (with_reducible rfl)
  try simp only [Act.put, List.setIfInBounds_toArray, List.set_cons_zero, List.set_cons_succ]
  refine wpAnyL_ready (rs := [6]) (by kernel_rfl) (by simp) hC ?_
  refine AllReadyL.cons (o := { dst := some 126, op := .call { callee := .value (.func 23), args := #[.tmp 125], argTypes := #[25] }, type := _, pos := _, after := _, guard := some (4, true) }) rfl (fun K9 hK => ?_) ?_
  · skip
    go_simp
    refine ((dk_tail HY0.out.dw.dk HY0.out.s.1.1).1 _ (Below.refl _ _)).mono ?_
    rintro e v1 ⟨rfl, hb8⟩
    have HY1 := Lib.hid (HY0.out.kept hb8)
    clear hb8 HY0
    refine hK _ _ HY1.out.rb (fun hC => ?_)
    clear hK K9
    try simp only [Act.put, List.setIfInBounds_toArray, List.set_cons_zero, List.set_cons_succ]
    refine wpAnyL_take (i := 9) (oi := { dst := some 129, op := .binOp .eql 4 (.tmp 126) (.tmp 128) 4, type := _, pos := _, after := _, guard := some (4, true) }) (v := ?_) rfl (by kernel_rfl) (by kernel_rfl) (by kernel_rfl) (fun _ _ _ h => h) (fun _ _ => Iff.rfl) hC (Or.inl ⟨by rfl, ?_⟩) HY1.out.rb (fun hC hS => ?_)
    rotate_left
    · intro W9 hSw; skip; go_simp; try (with_reducible rfl)
    try simp only [Act.put, List.setIfInBounds_toArray, List.set_cons_zero, List.set_cons_succ]
    refine wpAnyL_take (i := 10) (oi := { dst := some 130, op := .pick (.tmp 124) (.tmp 129) (.const (.bool false)), type := _, pos := _, after := _, guard := none }) (v := ?_) rfl (by kernel_rfl) (by kernel_rfl) (by kernel_rfl) (fun _ _ _ h => h) (fun _ _ => Iff.rfl) hC (Or.inl ⟨by rfl, ?_⟩) HY1.out.rb (fun hC hS => ?_)
    rotate_left
    · intro W9 hSw; skip; go_simp; try (with_reducible rfl)
    try simp only [Act.put, List.setIfInBounds_toArray, List.set_cons_zero, List.set_cons_succ]
    refine wpAnyL_take (i := 11) (oi := { dst := some 131, op := .move (.tmp 130), type := _, pos := _, after := _, guard := none }) (v := ?_) rfl (by kernel_rfl) (by kernel_rfl) (by kernel_rfl) (fun _ _ _ h => h) (fun _ _ => Iff.rfl) hC (Or.inl ⟨by rfl, ?_⟩) HY1.out.rb (fun hC hS => ?_)
    rotate_left
    · intro W9 hSw; skip; go_simp; try (with_reducible rfl)
    try simp only [Act.put, List.setIfInBounds_toArray, List.set_cons_zero, List.set_cons_succ]
    refine wpAnyL_take (i := 12) (oi := { dst := some 132, op := .move (.tmp 0), type := _, pos := _, after := _, guard := some (11, true) }) (v := ?_) rfl (by kernel_rfl) (by kernel_rfl) (by kernel_rfl) (fun _ _ _ h => h) (fun _ _ => Iff.rfl) hC (Or.inl ⟨by rfl, ?_⟩) HY1.out.rb (fun hC hS => ?_)
    rotate_left
    · intro W9 hSw; skip; go_simp; try (with_reducible rfl)
    try simp only [Act.put, List.setIfInBounds_toArray, List.set_cons_zero, List.set_cons_succ]
    refine wpAnyL_take (i := 14) (oi := { dst := some 134, op := .fieldAddr 35 (.tmp 4) 3, type := _, pos := _, after := _, guard := some (11, true) }) (v := ?_) rfl (by kernel_rfl) (by kernel_rfl) (by kernel_rfl) (fun _ _ _ h => h) (fun _ _ => Iff.rfl) hC (Or.inl ⟨by rfl, ?_⟩) HY1.out.rb (fun hC hS => ?_)
    rotate_left
    · intro W9 hSw; skip; go_simp; try (with_reducible rfl)
    try simp only [Act.put, List.setIfInBounds_toArray, List.set_cons_zero, List.set_cons_succ]
    refine wpAnyL_take (i := 15) (oi := { dst := some 135, op := .load 3 (.tmp 134), type := _, pos := _, after := _, guard := some (11, true) }) (v := ?_) rfl (by kernel_rfl) (by kernel_rfl) (by kernel_rfl) (fun _ _ _ h => h) (fun _ _ => Iff.rfl) hC (Or.inl ⟨by rfl, ?_⟩) HY1.out.rb (fun hC hS => ?_)
    rotate_left
    · intro W9 hSw; have q4 := (cell_of_row _ _ 4 _ _ _ hSw.choose_spec.2.2).trans rfl; go_simp; try (with_reducible rfl)
    try simp only [Act.put, List.setIfInBounds_toArray, List.set_cons_zero, List.set_cons_succ]
    refine wpAnyL_ready (rs := [13]) (by kernel_rfl) (by simp) hC ?_
    refine AllReadyL.cons (o := { dst := some 133, op := .call { callee := .value (.func 28), args := #[.tmp 132], argTypes := #[25] }, type := _, pos := _, after := _, guard := some (11, true) }) rfl (fun K9 hK => ?_) ?_
    · skip
      go_simp
      refine ((dk_tail HY1.out.dw.dk HY1.out.s.1.1).2.1 _ (Below.refl _ _)).mono ?_
      rintro e v2 ⟨rfl, hb8⟩
      have HY2 := Lib.hid (HY1.out.kept hb8)
      clear hb8 HY1
      refine hK _ _ HY2.out.rb (fun hC => ?_)
      clear hK K9
      try simp only [Act.put, List.setIfInBounds_toArray, List.set_cons_zero, List.set_cons_succ]
      refine wpAnyL_take (i := 16) (oi := { dst := some 136, op := .binOp .eql 3 (.tmp 133) (.tmp 135) 3, type := _, pos := _, after := _, guard := some (11, true) }) (v := ?_) rfl (by kernel_rfl) (by kernel_rfl) (by kernel_rfl) (fun _ _ _ h => h) (fun _ _ => Iff.rfl) hC (Or.inl ⟨by rfl, ?_⟩) HY2.out.rb (fun hC hS => ?_)
      rotate_left
      · intro W9 hSw; skip; go_simp; try (with_reducible rfl)
      try simp only [Act.put, List.setIfInBounds_toArray, List.set_cons_zero, List.set_cons_succ]
      refine wpAnyL_take (i := 17) (oi := { dst := some 137, op := .pick (.tmp 131) (.tmp 136) (.const (.bool false)), type := _, pos := _, after := _, guard := none }) (v := ?_) rfl (by kernel_rfl) (by kernel_rfl) (by kernel_rfl) (fun _ _ _ h => h) (fun _ _ => Iff.rfl) hC (Or.inl ⟨by rfl, ?_⟩) HY2.out.rb (fun hC hS => ?_)
      rotate_left
      · intro W9 hSw; skip; go_simp; try (with_reducible rfl)
      try simp only [Act.put, List.setIfInBounds_toArray, List.set_cons_zero, List.set_cons_succ]
      refine wpAnyL_take (i := 18) (oi := { dst := some 138, op := .move (.tmp 137), type := _, pos := _, after := _, guard := none }) (v := ?_) rfl (by kernel_rfl) (by kernel_rfl) (by kernel_rfl) (fun _ _ _ h => h) (fun _ _ => Iff.rfl) hC (Or.inl ⟨by rfl, ?_⟩) HY2.out.rb (fun hC hS => ?_)
      rotate_left
      · intro W9 hSw; skip; go_simp; try (with_reducible rfl)
      try simp only [Act.put, List.setIfInBounds_toArray, List.set_cons_zero, List.set_cons_succ]
      refine wpAnyL_take (i := 19) (oi := { dst := some 139, op := .move (.tmp 0), type := _, pos := _, after := _, guard := some (18, true) }) (v := ?_) rfl (by kernel_rfl) (by kernel_rfl) (by kernel_rfl) (fun _ _ _ h => h) (fun _ _ => Iff.rfl) hC (Or.inl ⟨by rfl, ?_⟩) HY2.out.rb (fun hC hS => ?_)
      rotate_left
      · intro W9 hSw; skip; go_simp; try (with_reducible rfl)
      try simp only [Act.put, List.setIfInBounds_toArray, List.set_cons_zero, List.set_cons_succ]
      refine wpAnyL_take (i := 21) (oi := { dst := some 141, op := .fieldAddr 35 (.tmp 4) 0, type := _, pos := _, after := _, guard := some (18, true) }) (v := ?_) rfl (by kernel_rfl) (by kernel_rfl) (by kernel_rfl) (fun _ _ _ h => h) (fun _ _ => Iff.rfl) hC (Or.inl ⟨by rfl, ?_⟩) HY2.out.rb (fun hC hS => ?_)
      rotate_left
      · intro W9 hSw; skip; go_simp; try (with_reducible rfl)
      try simp only [Act.put, List.setIfInBounds_toArray, List.set_cons_zero, List.set_cons_succ]
      refine wpAnyL_take (i := 22) (oi := { dst := some 142, op := .fieldAddr 32 (.tmp 141) 0, type := _, pos := _, after := _, guard := some (18, true) }) (v := ?_) rfl (by kernel_rfl) (by kernel_rfl) (by kernel_rfl) (fun _ _ _ h => h) (fun _ _ => Iff.rfl) hC (Or.inl ⟨by rfl, ?_⟩) HY2.out.rb (fun hC hS => ?_)
      rotate_left
      · intro W9 hSw; skip; go_simp; try (with_reducible rfl)
      try simp only [Act.put, List.setIfInBounds_toArray, List.set_cons_zero, List.set_cons_succ]
      refine wpAnyL_take (i := 23) (oi := { dst := some 143, op := .load 29 (.tmp 142), type := _, pos := _, after := _, guard := some (18, true) }) (v := ?_) rfl (by kernel_rfl) (by kernel_rfl) (by kernel_rfl) (fun _ _ _ h => h) (fun _ _ => Iff.rfl) hC (Or.inl ⟨by rfl, ?_⟩) HY2.out.rb (fun hC hS => ?_)
      rotate_left
      · intro W9 hSw; have q0 := (cell_of_row _ _ 0 _ _ _ hSw.choose_spec.2.2).trans rfl; go_simp; try (with_reducible rfl)
      try simp only [Act.put, List.setIfInBounds_toArray, List.set_cons_zero, List.set_cons_succ]
      refine wpAnyL_take (i := 24) (oi := { dst := some 144, op := .call { callee := .builtin .len, args := #[.tmp 143], argTypes := #[29] }, type := _, pos := _, after := _, guard := some (18, true) }) (v := ?_) rfl (by kernel_rfl) (by kernel_rfl) (by kernel_rfl) (fun _ _ _ h => h) (fun _ _ => Iff.rfl) hC (Or.inl ⟨by rfl, ?_⟩) HY2.out.rb (fun hC hS => ?_)
      rotate_left
      · intro W9 hSw; skip; go_simp; try (with_reducible rfl)
      try simp only [Act.put, List.setIfInBounds_toArray, List.set_cons_zero, List.set_cons_succ]
      refine wpAnyL_ready (rs := [20]) (by kernel_rfl) (by simp) hC ?_
      refine AllReadyL.cons (o := { dst := some 140, op := .call { callee := .value (.func 27), args := #[.tmp 139], argTypes := #[25] }, type := _, pos := _, after := _, guard := some (18, true) }) rfl (fun K9 hK => ?_) ?_
      · skip
        go_simp
        refine ((dk_tail HY2.out.dw.dk HY2.out.s.1.1).2.2 _ (Below.refl _ _)).mono ?_
        rintro e v3 ⟨rfl, hb8⟩
        have HY3 := Lib.hid (HY2.out.kept hb8)
        clear hb8 HY2
        refine hK _ _ HY3.out.rb (fun hC => ?_)
        clear hK K9
        try simp only [Act.put, List.setIfInBounds_toArray, List.set_cons_zero, List.set_cons_succ]
        refine wpAnyL_take (i := 25) (oi := { dst := some 145, op := .binOp .eql 3 (.tmp 140) (.tmp 144) 3, type := _, pos := _, after := _, guard := some (18, true) }) (v := ?_) rfl (by kernel_rfl) (by kernel_rfl) (by kernel_rfl) (fun _ _ _ h => h) (fun _ _ => Iff.rfl) hC (Or.inl ⟨by rfl, ?_⟩) HY3.out.rb (fun hC hS => ?_)
        rotate_left
        · intro W9 hSw; skip; go_simp; try (with_reducible rfl)
        try simp only [Act.put, List.setIfInBounds_toArray, List.set_cons_zero, List.set_cons_succ]
        refine wpAnyL_take (i := 26) (oi := { dst := some 146, op := .pick (.tmp 138) (.tmp 145) (.const (.bool false)), type := _, pos := _, after := _, guard := none }) (v := ?_) rfl (by kernel_rfl) (by kernel_rfl) (by kernel_rfl) (fun _ _ _ h => h) (fun _ _ => Iff.rfl) hC (Or.inl ⟨by rfl, ?_⟩) HY3.out.rb (fun hC hS => ?_)
        rotate_left
        · intro W9 hSw; skip; go_simp; try (with_reducible rfl)
        try simp only [Act.put, List.setIfInBounds_toArray, List.set_cons_zero, List.set_cons_succ]
        refine wpAnyL_ready (rs := [27]) (by kernel_rfl) (by simp) hC ?_
        refine AllReadyL.cons (o := { dst := none, op := .store 35 (.tmp 6) (.tmp 120), type := _, pos := _, after := _, guard := none }) rfl (fun K9 hK => ?_) ?_
        · skip
          have y0 : v3.cell? ⟨w.heap.size + 2, 0, none⟩ = some (.slice none 0 0) := (cell_of_row _ _ 0 _ _ _ HY3.out.qb).trans rfl
          have y1 : v3.cell? ⟨w.heap.size + 2, 1, none⟩ = some (.slice none 0 0) := (cell_of_row _ _ 1 _ _ _ HY3.out.qb).trans rfl
          have y2 : v3.cell? ⟨w.heap.size + 2, 2, none⟩ = some (.int .i64 0) := (cell_of_row _ _ 2 _ _ _ HY3.out.qb).trans rfl
          have y3 : v3.cell? ⟨w.heap.size + 2, 3, none⟩ = some (.bool false) := (cell_of_row _ _ 3 _ _ _ HY3.out.qb).trans rfl
          have y4 : v3.cell? ⟨w.heap.size + 2, 4, none⟩ = some (.int .i64 0) := (cell_of_row _ _ 4 _ _ _ HY3.out.qb).trans rfl
          have f0 : v3.frozen? ⟨w.heap.size + 2, 0, none⟩ = false := frozen_of_row _ _ _ _ _ HY3.out.qb
          have f1 : v3.frozen? ⟨w.heap.size + 2, 1, none⟩ = false := frozen_of_row _ _ _ _ _ HY3.out.qb
          have f2 : v3.frozen? ⟨w.heap.size + 2, 2, none⟩ = false := frozen_of_row _ _ _ _ _ HY3.out.qb
          have f3 : v3.frozen? ⟨w.heap.size + 2, 3, none⟩ = false := frozen_of_row _ _ _ _ _ HY3.out.qb
          have f4 : v3.frozen? ⟨w.heap.size + 2, 4, none⟩ = false := frozen_of_row _ _ _ _ _ HY3.out.qb
          go_simp
          obtain ⟨v9, hv9⟩ : ∃ v9, v9 = (((((v3.setCell ⟨w.heap.size + 2, 0, none⟩ (.slice A9 n9 c9)).setCell ⟨w.heap.size + 2, 1, none⟩ (.slice B9 m9 k9)).setCell ⟨w.heap.size + 2, 2, none⟩ (.int .i64 d'.ar)).setCell ⟨w.heap.size + 2, 3, none⟩ (.bool d'.go)).setCell ⟨w.heap.size + 2, 4, none⟩ (.int .i64 d'.op)) := ⟨_, rfl⟩
          have HG := Lib.hid (HY3.out.done v9 hv9)
          rw [← hv9]
          clear y0 y1 y2 y3 y4 f0 f1 f2 f3 f4 hv9
          refine hK _ _ HG.out.2.2.2.2.2 (fun hC => ?_)
          clear hK K9
          try simp only [Act.put, List.setIfInBounds_toArray, List.set_cons_zero, List.set_cons_succ]
          refine wpAnyL_take (i := 28) (oi := { dst := some 7, op := .assign (.tmp 146), type := _, pos := _, after := _, guard := none }) (v := ?_) rfl (by kernel_rfl) (by kernel_rfl) (by kernel_rfl) (fun _ _ _ h => h) (fun _ _ => Iff.rfl) hC (Or.inl ⟨by rfl, ?_⟩) HG.out.2.2.2.2.2 (fun hC hS => ?_)
          rotate_left
          · intro W9 hSw; skip; go_simp; try (with_reducible rfl)
          try simp only [Act.put, List.setIfInBounds_toArray, List.set_cons_zero, List.set_cons_succ]
          refine wpAnyL_done (by kernel_rfl) ?_ _
          go_wp2_with fail
          refine bodyPost_ret (results_ctY rfl _ _ (w.heap.size + 2) #[.slice A9 n9 c9, .slice B9 m9 k9, .int .i64 d'.ar, .bool d'.go, .int .i64 d'.op] rfl (run_loadVar_row _ (w.heap.size + 2) 35 35 _ (0, 0) _ HG.out.2.2.2.2.1 Try.underlying35 rfl (by kernel_rfl))) rfl ?_
          exact ⟨_, _, _, _, _, _, rfl, HG.out.1, HG.out.2.1, HG.out.2.2.1, HG.out.2.2.2.1⟩
        exact AllReadyL.nil
      exact AllReadyL.nil
    exact AllReadyL.nil
  exact AllReadyL.nil
set_option maxRecDepth 100000 in
set_option maxHeartbeats 4000000 in
theorem does4 (n0 : Nat) (w0 : World) (D : Nat) (d : Ds) (k : Nat) (A : Option Addr) (n c : Nat) (A2 : Option Addr) (n2 c2 : Nat) (a : Ac) (w : World) (h : DW n0 w0 D d w) (_ : DsOk k d) (_ : k ≤ 1000) (h1 : RdA D stC 1 w A n d.S) (h2 : RdA D wrC 2 w A2 n2 d.C) (hs : a.t.size ≤ 140737488351232) (hkd : a.kd = 4) :
    Calls Try.prog 13 #[.pointer (some ⟨D, 0, none⟩), rdv A n c A2 n2 c2 d.ar d.go d.op, acV a] w (DoesP n0 w0 D (d.arm a.nn) w) := by
  obtain ⟨d', hd'⟩ : ∃ d', d' = d.arm a.nn := ⟨_, rfl⟩
  obtain ⟨z, hz⟩ : ∃ z, z = armE d.go a.nn := ⟨_, rfl⟩
  have HOK := Lib.hid h.dk.at'
  have HQ := Lib.hid (fun (W : World) (A : Option Addr) (n c : Nat) (A2 : Option Addr) (n2 c2 : Nat) (q : RV (fun b => ¬ InD D W b) d A n A2 n2 W) (hP : ∀ b, W.heap.size ≤ b → ¬ InD D W b) => qarm (c := c) (c2 := c2) q a.nn)
  have HP := Lib.hid (fun (W : World) (q : DW n0 w0 D d W) => parm q a.nn)
  rw [← hd', ← hz] at HQ HP
  rw [← hd']
  clear hd' hz HOK
  obtain ⟨kd, at0, nn, t, rw1, ka, kn, kc, ks⟩ := a
  dsimp only at HQ HP hkd
  subst hkd
  have HZ0 := Lib.hid (bz_start (a := ⟨4, at0, nn, t, rw1, ka, kn, kc, ks⟩) (c := c) (c2 := c2) h h1 h2)
  obtain ⟨v, hv⟩ : ∃ v, v = (((w.alloc (.cells #[.slice A n c, .slice A2 n2 c2, .int .i64 d.ar, .bool d.go, .int .i64 d.op] 35 (0, 0))).alloc (.cells #[.int .i64 4, .int .i64 at0, .int .i64 nn, .string t, .bool rw1, .slice ka kn kc] 39 (0, 0))).alloc (.cells #[.slice none 0 0, .slice none 0 0, .int .i64 0, .bool false, .int .i64 0] 35 (0, 0))) := ⟨_, rfl⟩
  have HV := Lib.hid hv
  have HZ : Hid (Bz n0 w0 w D w.heap.size d d A n c A2 n2 c2 ⟨4, at0, nn, t, rw1, ka, kn, kc, ks⟩ v) := Lib.hid (by rw [hv]; exact HZ0.out)
  clear HZ0 hv h h1 h2
  go_enter Try.func13, Try.ntmps13
  go_upto_region 1 with (fail)
  rw [← HV.out]
  clear HV
  have hk0 : v.cell? ⟨w.heap.size + 1, 0, none⟩ = some (.int .i64 4) := (cell_of_row _ _ 0 _ _ _ HZ.out.ab).trans rfl
  go_upto_region 18 with (fail)
  clear hk0
  have y0 : v.cell? ⟨w.heap.size, 0, none⟩ = some (.slice A n c) := (cell_of_row _ _ 0 _ _ _ HZ.out.rb).trans rfl
  have y1 : v.cell? ⟨w.heap.size, 1, none⟩ = some (.slice A2 n2 c2) := (cell_of_row _ _ 1 _ _ _ HZ.out.rb).trans rfl
  have y2 : v.cell? ⟨w.heap.size, 2, none⟩ = some (.int .i64 d.ar) := (cell_of_row _ _ 2 _ _ _ HZ.out.rb).trans rfl
  have y3 : v.cell? ⟨w.heap.size, 3, none⟩ = some (.bool d.go) := (cell_of_row _ _ 3 _ _ _ HZ.out.rb).trans rfl
  have y4 : v.cell? ⟨w.heap.size, 4, none⟩ = some (.int .i64 d.op) := (cell_of_row _ _ 4 _ _ _ HZ.out.rb).trans rfl
  have x0 : v.cell? ⟨w.heap.size + 1, 2, none⟩ = some (.int .i64 nn) := (cell_of_row _ _ 2 _ _ _ HZ.out.ab).trans rfl
  go_wp2_with fail
  refine (HQ.out _ A n c A2 n2 c2 HZ.out.rv HZ.out.nw).mono ?_
  rintro e w5 ⟨vv, rfl, ⟨A9, n9, c9, B9, m9, k9, rfl, hs5, hc5⟩, hb5⟩
  have HZ5 := Lib.hid (HZ.out.kept hb5)
  have HS5 := Lib.hid (hs5.rdA hb5 HZ.out.dw.lt)
  have HC5 := Lib.hid (hc5.rdA hb5 HZ.out.dw.lt)
  clear hs5 hc5 hb5 HZ HQ
  clear y0 y1 y2 y3 y4 x0
  have y0 : w5.cell? ⟨w.heap.size, 0, none⟩ = some (.slice A n c) := (cell_of_row _ _ 0 _ _ _ HZ5.out.rb).trans rfl
  have y1 : w5.cell? ⟨w.heap.size, 1, none⟩ = some (.slice A2 n2 c2) := (cell_of_row _ _ 1 _ _ _ HZ5.out.rb).trans rfl
  have y2 : w5.cell? ⟨w.heap.size, 2, none⟩ = some (.int .i64 d.ar) := (cell_of_row _ _ 2 _ _ _ HZ5.out.rb).trans rfl
  have y3 : w5.cell? ⟨w.heap.size, 3, none⟩ = some (.bool d.go) := (cell_of_row _ _ 3 _ _ _ HZ5.out.rb).trans rfl
  have y4 : w5.cell? ⟨w.heap.size, 4, none⟩ = some (.int .i64 d.op) := (cell_of_row _ _ 4 _ _ _ HZ5.out.rb).trans rfl
  have f0 : w5.frozen? ⟨w.heap.size, 0, none⟩ = false := frozen_of_row _ _ _ _ _ HZ5.out.rb
  have f1 : w5.frozen? ⟨w.heap.size, 1, none⟩ = false := frozen_of_row _ _ _ _ _ HZ5.out.rb
  have f2 : w5.frozen? ⟨w.heap.size, 2, none⟩ = false := frozen_of_row _ _ _ _ _ HZ5.out.rb
  have f3 : w5.frozen? ⟨w.heap.size, 3, none⟩ = false := frozen_of_row _ _ _ _ _ HZ5.out.rb
  have f4 : w5.frozen? ⟨w.heap.size, 4, none⟩ = false := frozen_of_row _ _ _ _ _ HZ5.out.rb
  go_upto_region 19 with (fail)
  have HZ6 := Lib.hid (HZ5.out.stored (m := n9) (mc := c9) (m2 := m9) (k2 := k9) HS5.out HC5.out)
  clear y0 y1 y2 y3 y4 f0 f1 f2 f3 f4 HS5 HC5 HZ5
  generalize (((((w5.setCell ⟨w.heap.size, 0, none⟩ (.slice A9 n9 c9)).setCell ⟨w.heap.size, 1, none⟩ (.slice B9 m9 k9)).setCell ⟨w.heap.size, 2, none⟩ (.int .i64 d'.ar)).setCell ⟨w.heap.size, 3, none⟩ (.bool d'.go)).setCell ⟨w.heap.size, 4, none⟩ (.int .i64 d'.op)) = w6 at *
  have x0 : w6.cell? ⟨w.heap.size + 1, 2, none⟩ = some (.int .i64 nn) := (cell_of_row _ _ 2 _ _ _ HZ6.out.ab).trans rfl
  go_wp2_with fail
  refine (HP.out _ HZ6.out.dw).mono ?_
  rintro e w3 ⟨rfl, hd3, hk3⟩
  have HZ3 := Lib.hid (HZ6.out.prog hk3 hd3)
  clear hd3 hk3 HZ6 HP x0
  go_upto_region 27 with (fail)
  have HY0 := Lib.hid HZ3.out.drew
  refine wp_region_L_drew (S := fun _ W => W.heap[w.heap.size]? = some (.cells (rdC A9 n9 c9 B9 m9 k9 d') 35 (0, 0))) (by kernel_rfl) HY0.out.rb (fun hS hC => ?_)
  generalize w3.drew = v0 at *
  refine wpAnyL_take (i := 0) (oi := { dst := some 120, op := .load 35 (.tmp 4), type := _, pos := _, after := _, guard := none }) (v := ?_) rfl (by kernel_rfl) (by kernel_rfl) (by kernel_rfl) (fun _ _ _ h => h) (fun _ _ => Iff.rfl) hC (Or.inl ⟨by rfl, ?_⟩) hS (fun hC hS => ?_)
  rotate_left
  · intro W9 hSw; have q0 := (cell_of_row _ _ 0 _ _ _ hSw.choose_spec.2.2).trans rfl; have q1 := (cell_of_row _ _ 1 _ _ _ hSw.choose_spec.2.2).trans rfl; have q2 := (cell_of_row _ _ 2 _ _ _ hSw.choose_spec.2.2).trans rfl; have q3 := (cell_of_row _ _ 3 _ _ _ hSw.choose_spec.2.2).trans rfl; have q4 := (cell_of_row _ _ 4 _ _ _ hSw.choose_spec.2.2).trans rfl; go_simp; try (with_reducible rfl)
  try simp only [Act.put, List.setIfInBounds_toArray, List.set_cons_zero, List.set_cons_succ]
  refine wpAnyL_take (i := 1) (oi := { dst := some 121, op := .move (.tmp 8), type := _, pos := _, after := _, guard := none }) (v := ?_) rfl (by kernel_rfl) (by kernel_rfl) (by kernel_rfl) (fun _ _ _ h => h) (fun _ _ => Iff.rfl) hC (Or.inl ⟨by rfl, ?_⟩) hS (fun hC hS => ?_)
  rotate_left
  · intro W9 hSw; skip; go_simp; try (with_reducible rfl)
  try simp only [Act.put, List.setIfInBounds_toArray, List.set_cons_zero, List.set_cons_succ]
  refine wpAnyL_take (i := 2) (oi := { dst := some 122, op := .move (.tmp 9), type := _, pos := _, after := _, guard := none }) (v := ?_) rfl (by kernel_rfl) (by kernel_rfl) (by kernel_rfl) (fun _ _ _ h => h) (fun _ _ => Iff.rfl) hC (Or.inl ⟨by rfl, ?_⟩) hS (fun hC hS => ?_)
  rotate_left
  · intro W9 hSw; skip; go_simp; try (with_reducible rfl)
  try simp only [Act.put, List.setIfInBounds_toArray, List.set_cons_zero, List.set_cons_succ]
  refine wpAnyL_take (i := 3) (oi := { dst := some 123, op := .binOp .eql 3 (.tmp 121) (.tmp 122) 3, type := _, pos := _, after := _, guard := none }) (v := ?_) rfl (by kernel_rfl) (by kernel_rfl) (by kernel_rfl) (fun _ _ _ h => h) (fun _ _ => Iff.rfl) hC (Or.inl ⟨by rfl, ?_⟩) hS (fun hC hS => ?_)
  rotate_left
  · intro W9 hSw; skip; go_simp; try (with_reducible rfl)
  try simp only [Act.put, List.setIfInBounds_toArray, List.set_cons_zero, List.set_cons_succ]
  refine wpAnyL_take (i := 4) (oi := { dst := some 124, op := .move (.tmp 123), type := _, pos := _, after := _, guard := none }) (v := ?_) rfl (by kernel_rfl) (by kernel_rfl) (by kernel_rfl) (fun _ _ _ h => h) (fun _ _ => Iff.rfl) hC (Or.inl ⟨by rfl, ?_⟩) hS (fun hC hS => ?_)
  rotate_left
  · intro W9 hSw; skip; go_simp; try (with_reducible rfl)
  try simp only [Act.put, List.setIfInBounds_toArray, List.set_cons_zero, List.set_cons_succ]
  refine wpAnyL_take (i := 5) (oi := { dst := some 125, op := .move (.tmp 0), type := _, pos := _, after := _, guard := some (4, true) }) (v := ?_) rfl (by kernel_rfl) (by kernel_rfl) (by kernel_rfl) (fun _ _ _ h => h) (fun _ _ => Iff.rfl) hC (Or.inl ⟨by rfl, ?_⟩) hS (fun hC hS => ?_)
  rotate_left
  · intro W9 hSw; skip; go_simp; try (with_reducible rfl)
  try simp only [Act.put, List.setIfInBounds_toArray, List.set_cons_zero, List.set_cons_succ]
  refine wpAnyL_take (i := 7) (oi := { dst := some 127, op := .fieldAddr 35 (.tmp 4) 2, type := _, pos := _, after := _, guard := some (4, true) }) (v := ?_) rfl (by kernel_rfl) (by kernel_rfl) (by kernel_rfl) (fun _ _ _ h => h) (fun _ _ => Iff.rfl) hC (Or.inl ⟨by rfl, ?_⟩) hS (fun hC hS => ?_)
  rotate_left
  · intro W9 hSw; skip; go_simp; try (with_reducible rfl)
  try simp only [Act.put, List.setIfInBounds_toArray, List.set_cons_zero, List.set_cons_succ]
  refine wpAnyL_take (i := 8) (oi := { dst := some 128, op := .load 4 (.tmp 127), type := _, pos := _, after := _, guard := some (4, true) }) (v := ?_) rfl (by kernel_rfl) (by kernel_rfl) (by kernel_rfl) (fun _ _ _ h => h) (fun _ _ => Iff.rfl) hC (Or.inl ⟨by rfl, ?_⟩) hS (fun hC hS => ?_)
  rotate_left
  · intro W9 hSw; have q3 := (cell_of_row _ _ 3 _ _ _ hSw.choose_spec.2.2).trans rfl; go_simp; try (with_reducible rfl)
  try simp only [Act.put, List.setIfInBounds_toArray, List.set_cons_zero, List.set_cons_succ]
  refine wpAnyL_ready (rs := [6]) (by kernel_rfl) (by simp) hC ?_
  refine AllReadyL.cons (o := { dst := some 126, op := .call { callee := .value (.func 23), args := #[.tmp 125], argTypes := #[25] }, type := _, pos := _, after := _, guard := some (4, true) }) rfl (fun K9 hK => ?_) ?_
  · skip
    go_simp
    refine ((dk_tail HY0.out.dw.dk HY0.out.s.1.1).1 _ (Below.refl _ _)).mono ?_
    rintro e v1 ⟨rfl, hb8⟩
    have HY1 := Lib.hid (HY0.out.kept hb8)
    clear hb8 HY0
    refine hK _ _ HY1.out.rb (fun hC => ?_)
    clear hK K9
    try simp only [Act.put, List.setIfInBounds_toArray, List.set_cons_zero, List.set_cons_succ]
    refine wpAnyL_take (i := 9) (oi := { dst := some 129, op := .binOp .eql 4 (.tmp 126) (.tmp 128) 4, type := _, pos := _, after := _, guard := some (4, true) }) (v := ?_) rfl (by kernel_rfl) (by kernel_rfl) (by kernel_rfl) (fun _ _ _ h => h) (fun _ _ => Iff.rfl) hC (Or.inl ⟨by rfl, ?_⟩) HY1.out.rb (fun hC hS => ?_)
    rotate_left
    · intro W9 hSw; skip; go_simp; try (with_reducible rfl)
    try simp only [Act.put, List.setIfInBounds_toArray, List.set_cons_zero, List.set_cons_succ]
    refine wpAnyL_take (i := 10) (oi := { dst := some 130, op := .pick (.tmp 124) (.tmp 129) (.const (.bool false)), type := _, pos := _, after := _, guard := none }) (v := ?_) rfl (by kernel_rfl) (by kernel_rfl) (by kernel_rfl) (fun _ _ _ h => h) (fun _ _ => Iff.rfl) hC (Or.inl ⟨by rfl, ?_⟩) HY1.out.rb (fun hC hS => ?_)
    rotate_left
    · intro W9 hSw; skip; go_simp; try (with_reducible rfl)
    try simp only [Act.put, List.setIfInBounds_toArray, List.set_cons_zero, List.set_cons_succ]
    refine wpAnyL_take (i := 11) (oi := { dst := some 131, op := .move (.tmp 130), type := _, pos := _, after := _, guard := none }) (v := ?_) rfl (by kernel_rfl) (by kernel_rfl) (by kernel_rfl) (fun _ _ _ h => h) (fun _ _ => Iff.rfl) hC (Or.inl ⟨by rfl, ?_⟩) HY1.out.rb (fun hC hS => ?_)
    rotate_left
    · intro W9 hSw; skip; go_simp; try (with_reducible rfl)
    try simp only [Act.put, List.setIfInBounds_toArray, List.set_cons_zero, List.set_cons_succ]
    refine wpAnyL_take (i := 12) (oi := { dst := some 132, op := .move (.tmp 0), type := _, pos := _, after := _, guard := some (11, true) }) (v := ?_) rfl (by kernel_rfl) (by kernel_rfl) (by kernel_rfl) (fun _ _ _ h => h) (fun _ _ => Iff.rfl) hC (Or.inl ⟨by rfl, ?_⟩) HY1.out.rb (fun hC hS => ?_)
    rotate_left
    · intro W9 hSw; skip; go_simp; try (with_reducible rfl)
    try simp only [Act.put, List.setIfInBounds_toArray, List.set_cons_zero, List.set_cons_succ]
    refine wpAnyL_take (i := 14) (oi := { dst := some 134, op := .fieldAddr 35 (.tmp 4) 3, type := _, pos := _, after := _, guard := some (11, true) }) (v := ?_) rfl (by kernel_rfl) (by kernel_rfl) (by kernel_rfl) (fun _ _ _ h => h) (fun _ _ => Iff.rfl) hC (Or.inl ⟨by rfl, ?_⟩) HY1.out.rb (fun hC hS => ?_)
    rotate_left
    · intro W9 hSw; skip; go_simp; try (with_reducible rfl)
    try simp only [Act.put, List.setIfInBounds_toArray, List.set_cons_zero, List.set_cons_succ]
    refine wpAnyL_take (i := 15) (oi := { dst := some 135, op := .load 3 (.tmp 134), type := _, pos := _, after := _, guard := some (11, true) }) (v := ?_) rfl (by kernel_rfl) (by kernel_rfl) (by kernel_rfl) (fun _ _ _ h => h) (fun _ _ => Iff.rfl) hC (Or.inl ⟨by rfl, ?_⟩) HY1.out.rb (fun hC hS => ?_)
    rotate_left
    · intro W9 hSw; have q4 := (cell_of_row _ _ 4 _ _ _ hSw.choose_spec.2.2).trans rfl; go_simp; try (with_reducible rfl)
    try simp only [Act.put, List.setIfInBounds_toArray, List.set_cons_zero, List.set_cons_succ]
    refine wpAnyL_ready (rs := [13]) (by kernel_rfl) (by simp) hC ?_
    refine AllReadyL.cons (o := { dst := some 133, op := .call { callee := .value (.func 28), args := #[.tmp 132], argTypes := #[25] }, type := _, pos := _, after := _, guard := some (11, true) }) rfl (fun K9 hK => ?_) ?_
    · skip
      go_simp
      refine ((dk_tail HY1.out.dw.dk HY1.out.s.1.1).2.1 _ (Below.refl _ _)).mono ?_
      rintro e v2 ⟨rfl, hb8⟩
      have HY2 := Lib.hid (HY1.out.kept hb8)
      clear hb8 HY1
      refine hK _ _ HY2.out.rb (fun hC => ?_)
      clear hK K9
      try simp only [Act.put, List.setIfInBounds_toArray, List.set_cons_zero, List.set_cons_succ]
      refine wpAnyL_take (i := 16) (oi := { dst := some 136, op := .binOp .eql 3 (.tmp 133) (.tmp 135) 3, type := _, pos := _, after := _, guard := some (11, true) }) (v := ?_) rfl (by kernel_rfl) (by kernel_rfl) (by kernel_rfl) (fun _ _ _ h => h) (fun _ _ => Iff.rfl) hC (Or.inl ⟨by rfl, ?_⟩) HY2.out.rb (fun hC hS => ?_)
      rotate_left
      · intro W9 hSw; skip; go_simp; try (with_reducible rfl)
      try simp only [Act.put, List.setIfInBounds_toArray, List.set_cons_zero, List.set_cons_succ]
      refine wpAnyL_take (i := 17) (oi := { dst := some 137, op := .pick (.tmp 131) (.tmp 136) (.const (.bool false)), type := _, pos := _, after := _, guard := none }) (v := ?_) rfl (by kernel_rfl) (by kernel_rfl) (by kernel_rfl) (fun _ _ _ h => h) (fun _ _ => Iff.rfl) hC (Or.inl ⟨by rfl, ?_⟩) HY2.out.rb (fun hC hS => ?_)
      rotate_left
      · intro W9 hSw; skip; go_simp; try (with_reducible rfl)
      try simp only [Act.put, List.setIfInBounds_toArray, List.set_cons_zero, List.set_cons_succ]
      refine wpAnyL_take (i := 18) (oi := { dst := some 138, op := .move (.tmp 137), type := _, pos := _, after := _, guard := none }) (v := ?_) rfl (by kernel_rfl) (by kernel_rfl) (by kernel_rfl) (fun _ _ _ h => h) (fun _ _ => Iff.rfl) hC (Or.inl ⟨by rfl, ?_⟩) HY2.out.rb (fun hC hS => ?_)
      rotate_left
      · intro W9 hSw; skip; go_simp; try (with_reducible rfl)
      try simp only [Act.put, List.setIfInBounds_toArray, List.set_cons_zero, List.set_cons_succ]
      refine wpAnyL_take (i := 19) (oi := { dst := some 139, op := .move (.tmp 0), type := _, pos := _, after := _, guard := some (18, true) }) (v := ?_) rfl (by kernel_rfl) (by kernel_rfl) (by kernel_rfl) (fun _ _ _ h => h) (fun _ _ => Iff.rfl) hC (Or.inl ⟨by rfl, ?_⟩) HY2.out.rb (fun hC hS => ?_)
      rotate_left
      · intro W9 hSw; skip; go_simp; try (with_reducible rfl)
      try simp only [Act.put, List.setIfInBounds_toArray, List.set_cons_zero, List.set_cons_succ]
      refine wpAnyL_take (i := 21) (oi := { dst := some 141, op := .fieldAddr 35 (.tmp 4) 0, type := _, pos := _, after := _, guard := some (18, true) }) (v := ?_) rfl (by kernel_rfl) (by kernel_rfl) (by kernel_rfl) (fun _ _ _ h => h) (fun _ _ => Iff.rfl) hC (Or.inl ⟨by rfl, ?_⟩) HY2.out.rb (fun hC hS => ?_)
      rotate_left
      · intro W9 hSw; skip; go_simp; try (with_reducible rfl)
      try simp only [Act.put, List.setIfInBounds_toArray, List.set_cons_zero, List.set_cons_succ]
      refine wpAnyL_take (i := 22) (oi := { dst := some 142, op := .fieldAddr 32 (.tmp 141) 0, type := _, pos := _, after := _, guard := some (18, true) }) (v := ?_) rfl (by kernel_rfl) (by kernel_rfl) (by kernel_rfl) (fun _ _ _ h => h) (fun _ _ => Iff.rfl) hC (Or.inl ⟨by rfl, ?_⟩) HY2.out.rb (fun hC hS => ?_)
      rotate_left
      · intro W9 hSw; skip; go_simp; try (with_reducible rfl)
      try simp only [Act.put, List.setIfInBounds_toArray, List.set_cons_zero, List.set_cons_succ]
      refine wpAnyL_take (i := 23) (oi := { dst := some 143, op := .load 29 (.tmp 142), type := _, pos := _, after := _, guard := some (18, true) }) (v := ?_) rfl (by kernel_rfl) (by kernel_rfl) (by kernel_rfl) (fun _ _ _ h => h) (fun _ _ => Iff.rfl) hC (Or.inl ⟨by rfl, ?_⟩) HY2.out.rb (fun hC hS => ?_)
      rotate_left
      · intro W9 hSw; have q0 := (cell_of_row _ _ 0 _ _ _ hSw.choose_spec.2.2).trans rfl; go_simp; try (with_reducible rfl)
      try simp only [Act.put, List.setIfInBounds_toArray, List.set_cons_zero, List.set_cons_succ]
      refine wpAnyL_take (i := 24) (oi := { dst := some 144, op := .call { callee := .builtin .len, args := #[.tmp 143], argTypes := #[29] }, type := _, pos := _, after := _, guard := some (18, true) }) (v := ?_) rfl (by kernel_rfl) (by kernel_rfl) (by kernel_rfl) (fun _ _ _ h => h) (fun _ _ => Iff.rfl) hC (Or.inl ⟨by rfl, ?_⟩) HY2.out.rb (fun hC hS => ?_)
      rotate_left
      · intro W9 hSw; skip; go_simp; try (with_reducible rfl)
      try simp only [Act.put, List.setIfInBounds_toArray, List.set_cons_zero, List.set_cons_succ]
      refine wpAnyL_ready (rs := [20]) (by kernel_rfl) (by simp) hC ?_
      refine AllReadyL.cons (o := { dst := some 140, op := .call { callee := .value (.func 27), args := #[.tmp 139], argTypes := #[25] }, type := _, pos := _, after := _, guard := some (18, true) }) rfl (fun K9 hK => ?_) ?_
      · skip
        go_simp
        refine ((dk_tail HY2.out.dw.dk HY2.out.s.1.1).2.2 _ (Below.refl _ _)).mono ?_
        rintro e v3 ⟨rfl, hb8⟩
        have HY3 := Lib.hid (HY2.out.kept hb8)
        clear hb8 HY2
        refine hK _ _ HY3.out.rb (fun hC => ?_)
        clear hK K9
        try simp only [Act.put, List.setIfInBounds_toArray, List.set_cons_zero, List.set_cons_succ]
        refine wpAnyL_take (i := 25) (oi := { dst := some 145, op := .binOp .eql 3 (.tmp 140) (.tmp 144) 3, type := _, pos := _, after := _, guard := some (18, true) }) (v := ?_) rfl (by kernel_rfl) (by kernel_rfl) (by kernel_rfl) (fun _ _ _ h => h) (fun _ _ => Iff.rfl) hC (Or.inl ⟨by rfl, ?_⟩) HY3.out.rb (fun hC hS => ?_)
        rotate_left
        · intro W9 hSw; skip; go_simp; try (with_reducible rfl)
        try simp only [Act.put, List.setIfInBounds_toArray, List.set_cons_zero, List.set_cons_succ]
        refine wpAnyL_take (i := 26) (oi := { dst := some 146, op := .pick (.tmp 138) (.tmp 145) (.const (.bool false)), type := _, pos := _, after := _, guard := none }) (v := ?_) rfl (by kernel_rfl) (by kernel_rfl) (by kernel_rfl) (fun _ _ _ h => h) (fun _ _ => Iff.rfl) hC (Or.inl ⟨by rfl, ?_⟩) HY3.out.rb (fun hC hS => ?_)
        rotate_left
        · intro W9 hSw; skip; go_simp; try (with_reducible rfl)
        try simp only [Act.put, List.setIfInBounds_toArray, List.set_cons_zero, List.set_cons_succ]
        refine wpAnyL_ready (rs := [27]) (by kernel_rfl) (by simp) hC ?_
        refine AllReadyL.cons (o := { dst := none, op := .store 35 (.tmp 6) (.tmp 120), type := _, pos := _, after := _, guard := none }) rfl (fun K9 hK => ?_) ?_
        · skip
          have y0 : v3.cell? ⟨w.heap.size + 2, 0, none⟩ = some (.slice none 0 0) := (cell_of_row _ _ 0 _ _ _ HY3.out.qb).trans rfl
          have y1 : v3.cell? ⟨w.heap.size + 2, 1, none⟩ = some (.slice none 0 0) := (cell_of_row _ _ 1 _ _ _ HY3.out.qb).trans rfl
          have y2 : v3.cell? ⟨w.heap.size + 2, 2, none⟩ = some (.int .i64 0) := (cell_of_row _ _ 2 _ _ _ HY3.out.qb).trans rfl
          have y3 : v3.cell? ⟨w.heap.size + 2, 3, none⟩ = some (.bool false) := (cell_of_row _ _ 3 _ _ _ HY3.out.qb).trans rfl
          have y4 : v3.cell? ⟨w.heap.size + 2, 4, none⟩ = some (.int .i64 0) := (cell_of_row _ _ 4 _ _ _ HY3.out.qb).trans rfl
          have f0 : v3.frozen? ⟨w.heap.size + 2, 0, none⟩ = false := frozen_of_row _ _ _ _ _ HY3.out.qb
          have f1 : v3.frozen? ⟨w.heap.size + 2, 1, none⟩ = false := frozen_of_row _ _ _ _ _ HY3.out.qb
          have f2 : v3.frozen? ⟨w.heap.size + 2, 2, none⟩ = false := frozen_of_row _ _ _ _ _ HY3.out.qb
          have f3 : v3.frozen? ⟨w.heap.size + 2, 3, none⟩ = false := frozen_of_row _ _ _ _ _ HY3.out.qb
          have f4 : v3.frozen? ⟨w.heap.size + 2, 4, none⟩ = false := frozen_of_row _ _ _ _ _ HY3.out.qb
          go_simp
          obtain ⟨v9, hv9⟩ : ∃ v9, v9 = (((((v3.setCell ⟨w.heap.size + 2, 0, none⟩ (.slice A9 n9 c9)).setCell ⟨w.heap.size + 2, 1, none⟩ (.slice B9 m9 k9)).setCell ⟨w.heap.size + 2, 2, none⟩ (.int .i64 d'.ar)).setCell ⟨w.heap.size + 2, 3, none⟩ (.bool d'.go)).setCell ⟨w.heap.size + 2, 4, none⟩ (.int .i64 d'.op)) := ⟨_, rfl⟩
          have HG := Lib.hid (HY3.out.done v9 hv9)
          rw [← hv9]
          clear y0 y1 y2 y3 y4 f0 f1 f2 f3 f4 hv9
          refine hK _ _ HG.out.2.2.2.2.2 (fun hC => ?_)
          clear hK K9
          try simp only [Act.put, List.setIfInBounds_toArray, List.set_cons_zero, List.set_cons_succ]
          refine wpAnyL_take (i := 28) (oi := { dst := some 7, op := .assign (.tmp 146), type := _, pos := _, after := _, guard := none }) (v := ?_) rfl (by kernel_rfl) (by kernel_rfl) (by kernel_rfl) (fun _ _ _ h => h) (fun _ _ => Iff.rfl) hC (Or.inl ⟨by rfl, ?_⟩) HG.out.2.2.2.2.2 (fun hC hS => ?_)
          rotate_left
          · intro W9 hSw; skip; go_simp; try (with_reducible rfl)
          try simp only [Act.put, List.setIfInBounds_toArray, List.set_cons_zero, List.set_cons_succ]
          refine wpAnyL_done (by kernel_rfl) ?_ _
          go_wp2_with fail
          refine bodyPost_ret (results_ctY rfl _ _ (w.heap.size + 2) #[.slice A9 n9 c9, .slice B9 m9 k9, .int .i64 d'.ar, .bool d'.go, .int .i64 d'.op] rfl (run_loadVar_row _ (w.heap.size + 2) 35 35 _ (0, 0) _ HG.out.2.2.2.2.1 Try.underlying35 rfl (by kernel_rfl))) rfl ?_
          exact ⟨_, _, _, _, _, _, rfl, HG.out.1, HG.out.2.1, HG.out.2.2.1, HG.out.2.2.2.1⟩
        exact AllReadyL.nil
      exact AllReadyL.nil
    exact AllReadyL.nil
  exact AllReadyL.nil
set_option maxRecDepth 100000 in
set_option maxHeartbeats 4000000 in
theorem does6 (n0 : Nat) (w0 : World) (D : Nat) (d : Ds) (k : Nat) (A : Option Addr) (n c : Nat) (A2 : Option Addr) (n2 c2 : Nat) (a : Ac) (w : World) (h : DW n0 w0 D d w) (o : DsOk k d) (hk : k ≤ 1000) (h1 : RdA D stC 1 w A n d.S) (h2 : RdA D wrC 2 w A2 n2 d.C) (hs : a.t.size ≤ 140737488351232) (hkd : a.kd = 6) :
    Calls Try.prog 13 #[.pointer (some ⟨D, 0, none⟩), rdv A n c A2 n2 c2 d.ar d.go d.op, acV a] w (DoesP n0 w0 D (d.boot) w) := by
  obtain ⟨d', hd'⟩ : ∃ d', d' = d.boot := ⟨_, rfl⟩
  have HOK := Lib.hid h.dk.at'
  have HQ := Lib.hid (fun (W : World) (A : Option Addr) (n c : Nat) (A2 : Option Addr) (n2 c2 : Nat) (q : RV (fun b => ¬ InD D W b) d A n A2 n2 W) (hP : ∀ b, W.heap.size ≤ b → ¬ InD D W b) => qboot (c := c) (c2 := c2) q o hk hP HOK.out)
  have HP := Lib.hid (fun (W : World) (q : DW n0 w0 D d W) => pboot q)
  rw [← hd'] at HQ HP
  rw [← hd']
  clear hd' HOK
  obtain ⟨kd, at0, nn, t, rw1, ka, kn, kc, ks⟩ := a
  dsimp only at HQ HP hkd
  subst hkd
  have HZ0 := Lib.hid (bz_start (a := ⟨6, at0, nn, t, rw1, ka, kn, kc, ks⟩) (c := c) (c2 := c2) h h1 h2)
  obtain ⟨v, hv⟩ : ∃ v, v = (((w.alloc (.cells #[.slice A n c, .slice A2 n2 c2, .int .i64 d.ar, .bool d.go, .int .i64 d.op] 35 (0, 0))).alloc (.cells #[.int .i64 6, .int .i64 at0, .int .i64 nn, .string t, .bool rw1, .slice ka kn kc] 39 (0, 0))).alloc (.cells #[.slice none 0 0, .slice none 0 0, .int .i64 0, .bool false, .int .i64 0] 35 (0, 0))) := ⟨_, rfl⟩
  have HV := Lib.hid hv
  have HZ : Hid (Bz n0 w0 w D w.heap.size d d A n c A2 n2 c2 ⟨6, at0, nn, t, rw1, ka, kn, kc, ks⟩ v) := Lib.hid (by rw [hv]; exact HZ0.out)
  clear HZ0 hv h h1 h2
  go_enter Try.func13, Try.ntmps13
  go_upto_region 1 with (fail)
  rw [← HV.out]
  clear HV
  have hk0 : v.cell? ⟨w.heap.size + 1, 0, none⟩ = some (.int .i64 6) := (cell_of_row _ _ 0 _ _ _ HZ.out.ab).trans rfl
  go_upto_region 23 with (fail)
  clear hk0
  have y0 : v.cell? ⟨w.heap.size, 0, none⟩ = some (.slice A n c) := (cell_of_row _ _ 0 _ _ _ HZ.out.rb).trans rfl
  have y1 : v.cell? ⟨w.heap.size, 1, none⟩ = some (.slice A2 n2 c2) := (cell_of_row _ _ 1 _ _ _ HZ.out.rb).trans rfl
  have y2 : v.cell? ⟨w.heap.size, 2, none⟩ = some (.int .i64 d.ar) := (cell_of_row _ _ 2 _ _ _ HZ.out.rb).trans rfl
  have y3 : v.cell? ⟨w.heap.size, 3, none⟩ = some (.bool d.go) := (cell_of_row _ _ 3 _ _ _ HZ.out.rb).trans rfl
  have y4 : v.cell? ⟨w.heap.size, 4, none⟩ = some (.int .i64 d.op) := (cell_of_row _ _ 4 _ _ _ HZ.out.rb).trans rfl
  go_wp2_with fail
  refine (HQ.out _ A n c A2 n2 c2 HZ.out.rv HZ.out.nw).mono ?_
  rintro e w5 ⟨vv, rfl, ⟨A9, n9, c9, B9, m9, k9, rfl, hs5, hc5⟩, hb5⟩
  have HZ5 := Lib.hid (HZ.out.kept hb5)
  have HS5 := Lib.hid (hs5.rdA hb5 HZ.out.dw.lt)
  have HC5 := Lib.hid (hc5.rdA hb5 HZ.out.dw.lt)
  clear hs5 hc5 hb5 HZ HQ
  clear y0 y1 y2 y3 y4
  go_wp2_with fail
  refine (HP.out _ HZ5.out.dw).mono ?_
  rintro e w3 ⟨rfl, hd3, hk3⟩
  have HZ3 := Lib.hid (HZ5.out.prog hk3 hd3)
  have HS3 := Lib.hid (HS5.out.kd hk3)
  have HC3 := Lib.hid (HC5.out.kd hk3)
  clear hd3 hk3 HZ5 HP HS5 HC5
  have y0 : w3.cell? ⟨w.heap.size, 0, none⟩ = some (.slice A n c) := (cell_of_row _ _ 0 _ _ _ HZ3.out.rb).trans rfl
  have y1 : w3.cell? ⟨w.heap.size, 1, none⟩ = some (.slice A2 n2 c2) := (cell_of_row _ _ 1 _ _ _ HZ3.out.rb).trans rfl
  have y2 : w3.cell? ⟨w.heap.size, 2, none⟩ = some (.int .i64 d.ar) := (cell_of_row _ _ 2 _ _ _ HZ3.out.rb).trans rfl
  have y3 : w3.cell? ⟨w.heap.size, 3, none⟩ = some (.bool d.go) := (cell_of_row _ _ 3 _ _ _ HZ3.out.rb).trans rfl
  have y4 : w3.cell? ⟨w.heap.size, 4, none⟩ = some (.int .i64 d.op) := (cell_of_row _ _ 4 _ _ _ HZ3.out.rb).trans rfl
  have f0 : w3.frozen? ⟨w.heap.size, 0, none⟩ = false := frozen_of_row _ _ _ _ _ HZ3.out.rb
  have f1 : w3.frozen? ⟨w.heap.size, 1, none⟩ = false := frozen_of_row _ _ _ _ _ HZ3.out.rb
  have f2 : w3.frozen? ⟨w.heap.size, 2, none⟩ = false := frozen_of_row _ _ _ _ _ HZ3.out.rb
  have f3 : w3.frozen? ⟨w.heap.size, 3, none⟩ = false := frozen_of_row _ _ _ _ _ HZ3.out.rb
  have f4 : w3.frozen? ⟨w.heap.size, 4, none⟩ = false := frozen_of_row _ _ _ _ _ HZ3.out.rb
  go_upto_region 27 with (fail)
  have HZ6 := Lib.hid (HZ3.out.stored (m := n9) (mc := c9) (m2 := m9) (k2 := k9) HS3.out HC3.out)
  clear y0 y1 y2 y3 y4 f0 f1 f2 f3 f4 HS3 HC3 HZ3
  generalize (((((w3.setCell ⟨w.heap.size, 0, none⟩ (.slice A9 n9 c9)).setCell ⟨w.heap.size, 1, none⟩ (.slice B9 m9 k9)).setCell ⟨w.heap.size, 2, none⟩ (.int .i64 d'.ar)).setCell ⟨w.heap.size, 3, none⟩ (.bool d'.go)).setCell ⟨w.heap.size, 4, none⟩ (.int .i64 d'.op)) = w6 at *
  have HY0 := Lib.hid HZ6.out.drew
  refine wp_region_L_drew (S := fun _ W => W.heap[w.heap.size]? = some (.cells (rdC A9 n9 c9 B9 m9 k9 d') 35 (0, 0))) (by kernel_rfl) HY0.out.rb (fun hS hC => ?_)
  generalize w6.drew = v0 at *
  refine wpAnyL_take (i := 0) (oi := { dst := some 120, op := .load 35 (.tmp 4), type := _, pos := _, after := _, guard := none }) (v := ?_) rfl (by kernel_rfl) (by kernel_rfl) (by kernel_rfl) (fun _ _ _ h => h) (fun _ _ => Iff.rfl) hC (Or.inl ⟨by rfl, ?_⟩) hS (fun hC hS => ?_)
  rotate_left
  · intro W9 hSw; have q0 := (cell_of_row _ _ 0 _ _ _ hSw.choose_spec.2.2).trans rfl; have q1 := (cell_of_row _ _ 1 _ _ _ hSw.choose_spec.2.2).trans rfl; have q2 := (cell_of_row _ _ 2 _ _ _ hSw.choose_spec.2.2).trans rfl; have q3 := (cell_of_row _ _ 3 _ _ _ hSw.choose_spec.2.2).trans rfl; have q4 := (cell_of_row _ _ 4 _ _ _ hSw.choose_spec.2.2).trans rfl; go_simp; try (with_reducible rfl)
  try simp only [Act.put, List.setIfInBounds_toArray, List.set_cons_zero, List.set_cons_succ]
  refine wpAnyL_take (i := 1) (oi := { dst := some 121, op := .move (.tmp 8), type := _, pos := _, after := _, guard := none }) (v := ?_) rfl (by kernel_rfl) (by kernel_rfl) (by kernel_rfl) (fun _ _ _ h => h) (fun _ _ => Iff.rfl) hC (Or.inl ⟨by rfl, ?_⟩) hS (fun hC hS => ?_)
  rotate_left
  · intro W9 hSw; skip; go_simp; try (with_reducible rfl)
  try simp only [Act.put, List.setIfInBounds_toArray, List.set_cons_zero, List.set_cons_succ]
  refine wpAnyL_take (i := 2) (oi := { dst := some 122, op := .move (.tmp 9), type := _, pos := _, after := _, guard := none }) (v := ?_) rfl (by kernel_rfl) (by kernel_rfl) (by kernel_rfl) (fun _ _ _ h => h) (fun _ _ => Iff.rfl) hC (Or.inl ⟨by rfl, ?_⟩) hS (fun hC hS => ?_)
  rotate_left
  · intro W9 hSw; skip; go_simp; try (with_reducible rfl)
  try simp only [Act.put, List.setIfInBounds_toArray, List.set_cons_zero, List.set_cons_succ]
  refine wpAnyL_take (i := 3) (oi := { dst := some 123, op := .binOp .eql 3 (.tmp 121) (.tmp 122) 3, type := _, pos := _, after := _, guard := none }) (v := ?_) rfl (by kernel_rfl) (by kernel_rfl) (by kernel_rfl) (fun _ _ _ h => h) (fun _ _ => Iff.rfl) hC (Or.inl ⟨by rfl, ?_⟩) hS (fun hC hS => ?_)
  rotate_left
  · intro W9 hSw; skip; go_simp; try (with_reducible rfl)
  try simp only [Act.put, List.setIfInBounds_toArray, List.set_cons_zero, List.set_cons_succ]
  refine wpAnyL_take (i := 4) (oi := { dst := some 124, op := .move (.tmp 123), type := _, pos := _, after := _, guard := none }) (v := ?_) rfl (by kernel_rfl) (by kernel_rfl) (by kernel_rfl) (fun _ _ _ h => h) (fun _ _ => Iff.rfl) hC (Or.inl ⟨by rfl, ?_⟩) hS (fun hC hS => ?_)
  rotate_left
  · intro W9 hSw; skip; go_simp; try (with_reducible rfl)
  try simp only [Act.put, List.setIfInBounds_toArray, List.set_cons_zero, List.set_cons_succ]
  refine wpAnyL_take (i := 5) (oi := { dst := some 125, op := .move (.tmp 0), type := _, pos := _, after := _, guard := some (4, true) }) (v := ?_) rfl (by kernel_rfl) (by kernel_rfl) (by kernel_rfl) (fun _ _ _ h => h) (fun _ _ => Iff.rfl) hC (Or.inl ⟨by rfl, ?_⟩) hS (fun hC hS => ?_)
  rotate_left
  · intro W9 hSw; skip; go_simp; try (with_reducible rfl)
  try simp only [Act.put, List.setIfInBounds_toArray, List.set_cons_zero, List.set_cons_succ]
  refine wpAnyL_take (i := 7) (oi := { dst := some 127, op := .fieldAddr 35 (.tmp 4) 2, type := _, pos := _, after := _, guard := some (4, true) }) (v := ?_) rfl (by kernel_rfl) (by kernel_rfl) (by kernel_rfl) (fun _ _ _ h => h) (fun _ _ => Iff.rfl) hC (Or.inl ⟨by rfl, ?_⟩) hS (fun hC hS => ?_)
  rotate_left
  · intro W9 hSw; skip; go_simp; try (with_reducible rfl)
  try simp only [Act.put, List.setIfInBounds_toArray, List.set_cons_zero, List.set_cons_succ]
  refine wpAnyL_take (i := 8) (oi := { dst := some 128, op := .load 4 (.tmp 127), type := _, pos := _, after := _, guard := some (4, true) }) (v := ?_) rfl (by kernel_rfl) (by kernel_rfl) (by kernel_rfl) (fun _ _ _ h => h) (fun _ _ => Iff.rfl) hC (Or.inl ⟨by rfl, ?_⟩) hS (fun hC hS => ?_)
  rotate_left
  · intro W9 hSw; have q3 := (cell_of_row _ _ 3 _ _ _ hSw.choose_spec.2.2).trans rfl; go_simp; try (with_reducible rfl)
  try simp only [Act.put, List.setIfInBounds_toArray, List.set_cons_zero, List.set_cons_succ]
  refine wpAnyL_ready (rs := [6]) (by kernel_rfl) (by simp) hC ?_
  refine AllReadyL.cons (o := { dst := some 126, op := .call { callee := .value (.func 23), args := #[.tmp 125], argTypes := #[25] }, type := _, pos := _, after := _, guard := some (4, true) }) rfl (fun K9 hK => ?_) ?_
  · skip
    go_simp
    refine ((dk_tail HY0.out.dw.dk HY0.out.s.1.1).1 _ (Below.refl _ _)).mono ?_
    rintro e v1 ⟨rfl, hb8⟩
    have HY1 := Lib.hid (HY0.out.kept hb8)
    clear hb8 HY0
    refine hK _ _ HY1.out.rb (fun hC => ?_)
    clear hK K9
    try simp only [Act.put, List.setIfInBounds_toArray, List.set_cons_zero, List.set_cons_succ]
    refine wpAnyL_take (i := 9) (oi := { dst := some 129, op := .binOp .eql 4 (.tmp 126) (.tmp 128) 4, type := _, pos := _, after := _, guard := some (4, true) }) (v := ?_) rfl (by kernel_rfl) (by kernel_rfl) (by kernel_rfl) (fun _ _ _ h => h) (fun _ _ => Iff.rfl) hC (Or.inl ⟨by rfl, ?_⟩) HY1.out.rb (fun hC hS => ?_)
    rotate_left
    · intro W9 hSw; skip; go_simp; try (with_reducible rfl)
    try simp only [Act.put, List.setIfInBounds_toArray, List.set_cons_zero, List.set_cons_succ]
    refine wpAnyL_take (i := 10) (oi := { dst := some 130, op := .pick (.tmp 124) (.tmp 129) (.const (.bool false)), type := _, pos := _, after := _, guard := none }) (v := ?_) rfl (by kernel_rfl) (by kernel_rfl) (by kernel_rfl) (fun _ _ _ h => h) (fun _ _ => Iff.rfl) hC (Or.inl ⟨by rfl, ?_⟩) HY1.out.rb (fun hC hS => ?_)
    rotate_left
    · intro W9 hSw; skip; go_simp; try (with_reducible rfl)
    try simp only [Act.put, List.setIfInBounds_toArray, List.set_cons_zero, List.set_cons_succ]
    refine wpAnyL_take (i := 11) (oi := { dst := some 131, op := .move (.tmp 130), type := _, pos := _, after := _, guard := none }) (v := ?_) rfl (by kernel_rfl) (by kernel_rfl) (by kernel_rfl) (fun _ _ _ h => h) (fun _ _ => Iff.rfl) hC (Or.inl ⟨by rfl, ?_⟩) HY1.out.rb (fun hC hS => ?_)
    rotate_left
    · intro W9 hSw; skip; go_simp; try (with_reducible rfl)
    try simp only [Act.put, List.setIfInBounds_toArray, List.set_cons_zero, List.set_cons_succ]
    refine wpAnyL_take (i := 12) (oi := { dst := some 132, op := .move (.tmp 0), type := _, pos := _, after := _, guard := some (11, true) }) (v := ?_) rfl (by kernel_rfl) (by kernel_rfl) (by kernel_rfl) (fun _ _ _ h => h) (fun _ _ => Iff.rfl) hC (Or.inl ⟨by rfl, ?_⟩) HY1.out.rb (fun hC hS => ?_)
    rotate_left
    · intro W9 hSw; skip; go_simp; try (with_reducible rfl)
    try simp only [Act.put, List.setIfInBounds_toArray, List.set_cons_zero, List.set_cons_succ]
    refine wpAnyL_take (i := 14) (oi := { dst := some 134, op := .fieldAddr 35 (.tmp 4) 3, type := _, pos := _, after := _, guard := some (11, true) }) (v := ?_) rfl (by kernel_rfl) (by kernel_rfl) (by kernel_rfl) (fun _ _ _ h => h) (fun _ _ => Iff.rfl) hC (Or.inl ⟨by rfl, ?_⟩) HY1.out.rb (fun hC hS => ?_)
    rotate_left
    · intro W9 hSw; skip; go_simp; try (with_reducible rfl)
    try simp only [Act.put, List.setIfInBounds_toArray, List.set_cons_zero, List.set_cons_succ]
    refine wpAnyL_take (i := 15) (oi := { dst := some 135, op := .load 3 (.tmp 134), type := _, pos := _, after := _, guard := some (11, true) }) (v := ?_) rfl (by kernel_rfl) (by kernel_rfl) (by kernel_rfl) (fun _ _ _ h => h) (fun _ _ => Iff.rfl) hC (Or.inl ⟨by rfl, ?_⟩) HY1.out.rb (fun hC hS => ?_)
    rotate_left
    · intro W9 hSw; have q4 := (cell_of_row _ _ 4 _ _ _ hSw.choose_spec.2.2).trans rfl; go_simp; try (with_reducible rfl)
    try simp only [Act.put, List.setIfInBounds_toArray, List.set_cons_zero, List.set_cons_succ]
    refine wpAnyL_ready (rs := [13]) (by kernel_rfl) (by simp) hC ?_
    refine AllReadyL.cons (o := { dst := some 133, op := .call { callee := .value (.func 28), args := #[.tmp 132], argTypes := #[25] }, type := _, pos := _, after := _, guard := some (11, true) }) rfl (fun K9 hK => ?_) ?_
    · skip
      go_simp
      refine ((dk_tail HY1.out.dw.dk HY1.out.s.1.1).2.1 _ (Below.refl _ _)).mono ?_
      rintro e v2 ⟨rfl, hb8⟩
      have HY2 := Lib.hid (HY1.out.kept hb8)
      clear hb8 HY1
      refine hK _ _ HY2.out.rb (fun hC => ?_)
      clear hK K9
      try simp only [Act.put, List.setIfInBounds_toArray, List.set_cons_zero, List.set_cons_succ]
      refine wpAnyL_take (i := 16) (oi := { dst := some 136, op := .binOp .eql 3 (.tmp 133) (.tmp 135) 3, type := _, pos := _, after := _, guard := some (11, true) }) (v := ?_) rfl (by kernel_rfl) (by kernel_rfl) (by kernel_rfl) (fun _ _ _ h => h) (fun _ _ => Iff.rfl) hC (Or.inl ⟨by rfl, ?_⟩) HY2.out.rb (fun hC hS => ?_)
      rotate_left
      · intro W9 hSw; skip; go_simp; try (with_reducible rfl)
      try simp only [Act.put, List.setIfInBounds_toArray, List.set_cons_zero, List.set_cons_succ]
      refine wpAnyL_take (i := 17) (oi := { dst := some 137, op := .pick (.tmp 131) (.tmp 136) (.const (.bool false)), type := _, pos := _, after := _, guard := none }) (v := ?_) rfl (by kernel_rfl) (by kernel_rfl) (by kernel_rfl) (fun _ _ _ h => h) (fun _ _ => Iff.rfl) hC (Or.inl ⟨by rfl, ?_⟩) HY2.out.rb (fun hC hS => ?_)
      rotate_left
      · intro W9 hSw; skip; go_simp; try (with_reducible rfl)
      try simp only [Act.put, List.setIfInBounds_toArray, List.set_cons_zero, List.set_cons_succ]
      refine wpAnyL_take (i := 18) (oi := { dst := some 138, op := .move (.tmp 137), type := _, pos := _, after := _, guard := none }) (v := ?_) rfl (by kernel_rfl) (by kernel_rfl) (by kernel_rfl) (fun _ _ _ h => h) (fun _ _ => Iff.rfl) hC (Or.inl ⟨by rfl, ?_⟩) HY2.out.rb (fun hC hS => ?_)
      rotate_left
      · intro W9 hSw; skip; go_simp; try (with_reducible rfl)
      try simp only [Act.put, List.setIfInBounds_toArray, List.set_cons_zero, List.set_cons_succ]
      refine wpAnyL_take (i := 19) (oi := { dst := some 139, op := .move (.tmp 0), type := _, pos := _, after := _, guard := some (18, true) }) (v := ?_) rfl (by kernel_rfl) (by kernel_rfl) (by kernel_rfl) (fun _ _ _ h => h) (fun _ _ => Iff.rfl) hC (Or.inl ⟨by rfl, ?_⟩) HY2.out.rb (fun hC hS => ?_)
      rotate_left
      · intro W9 hSw; skip; go_simp; try (with_reducible rfl)
      try simp only [Act.put, List.setIfInBounds_toArray, List.set_cons_zero, List.set_cons_succ]
      refine wpAnyL_take (i := 21) (oi := { dst := some 141, op := .fieldAddr 35 (.tmp 4) 0, type := _, pos := _, after := _, guard := some (18, true) }) (v := ?_) rfl (by kernel_rfl) (by kernel_rfl) (by kernel_rfl) (fun _ _ _ h => h) (fun _ _ => Iff.rfl) hC (Or.inl ⟨by rfl, ?_⟩) HY2.out.rb (fun hC hS => ?_)
      rotate_left
      · intro W9 hSw; skip; go_simp; try (with_reducible rfl)
      try simp only [Act.put, List.setIfInBounds_toArray, List.set_cons_zero, List.set_cons_succ]
      refine wpAnyL_take (i := 22) (oi := { dst := some 142, op := .fieldAddr 32 (.tmp 141) 0, type := _, pos := _, after := _, guard := some (18, true) }) (v := ?_) rfl (by kernel_rfl) (by kernel_rfl) (by kernel_rfl) (fun _ _ _ h => h) (fun _ _ => Iff.rfl) hC (Or.inl ⟨by rfl, ?_⟩) HY2.out.rb (fun hC hS => ?_)
      rotate_left
      · intro W9 hSw; skip; go_simp; try (with_reducible rfl)
      try simp only [Act.put, List.setIfInBounds_toArray, List.set_cons_zero, List.set_cons_succ]
      refine wpAnyL_take (i := 23) (oi := { dst := some 143, op := .load 29 (.tmp 142), type := _, pos := _, after := _, guard := some (18, true) }) (v := ?_) rfl (by kernel_rfl) (by kernel_rfl) (by kernel_rfl) (fun _ _ _ h => h) (fun _ _ => Iff.rfl) hC (Or.inl ⟨by rfl, ?_⟩) HY2.out.rb (fun hC hS => ?_)
      rotate_left
      · intro W9 hSw; have q0 := (cell_of_row _ _ 0 _ _ _ hSw.choose_spec.2.2).trans rfl; go_simp; try (with_reducible rfl)
      try simp only [Act.put, List.setIfInBounds_toArray, List.set_cons_zero, List.set_cons_succ]
      refine wpAnyL_take (i := 24) (oi := { dst := some 144, op := .call { callee := .builtin .len, args := #[.tmp 143], argTypes := #[29] }, type := _, pos := _, after := _, guard := some (18, true) }) (v := ?_) rfl (by kernel_rfl) (by kernel_rfl) (by kernel_rfl) (fun _ _ _ h => h) (fun _ _ => Iff.rfl) hC (Or.inl ⟨by rfl, ?_⟩) HY2.out.rb (fun hC hS => ?_)
      rotate_left
      · intro W9 hSw; skip; go_simp; try (with_reducible rfl)
      try simp only [Act.put, List.setIfInBounds_toArray, List.set_cons_zero, List.set_cons_succ]
      refine wpAnyL_ready (rs := [20]) (by kernel_rfl) (by simp) hC ?_
      refine AllReadyL.cons (o := { dst := some 140, op := .call { callee := .value (.func 27), args := #[.tmp 139], argTypes := #[25] }, type := _, pos := _, after := _, guard := some (18, true) }) rfl (fun K9 hK => ?_) ?_
      · skip
        go_simp
        refine ((dk_tail HY2.out.dw.dk HY2.out.s.1.1).2.2 _ (Below.refl _ _)).mono ?_
        rintro e v3 ⟨rfl, hb8⟩
        have HY3 := Lib.hid (HY2.out.kept hb8)
        clear hb8 HY2
        refine hK _ _ HY3.out.rb (fun hC => ?_)
        clear hK K9
        try simp only [Act.put, List.setIfInBounds_toArray, List.set_cons_zero, List.set_cons_succ]
        refine wpAnyL_take (i := 25) (oi := { dst := some 145, op := .binOp .eql 3 (.tmp 140) (.tmp 144) 3, type := _, pos := _, after := _, guard := some (18, true) }) (v := ?_) rfl (by kernel_rfl) (by kernel_rfl) (by kernel_rfl) (fun _ _ _ h => h) (fun _ _ => Iff.rfl) hC (Or.inl ⟨by rfl, ?_⟩) HY3.out.rb (fun hC hS => ?_)
        rotate_left
        · intro W9 hSw; skip; go_simp; try (with_reducible rfl)
        try simp only [Act.put, List.setIfInBounds_toArray, List.set_cons_zero, List.set_cons_succ]
        refine wpAnyL_take (i := 26) (oi := { dst := some 146, op := .pick (.tmp 138) (.tmp 145) (.const (.bool false)), type := _, pos := _, after := _, guard := none }) (v := ?_) rfl (by kernel_rfl) (by kernel_rfl) (by kernel_rfl) (fun _ _ _ h => h) (fun _ _ => Iff.rfl) hC (Or.inl ⟨by rfl, ?_⟩) HY3.out.rb (fun hC hS => ?_)
        rotate_left
        · intro W9 hSw; skip; go_simp; try (with_reducible rfl)
        try simp only [Act.put, List.setIfInBounds_toArray, List.set_cons_zero, List.set_cons_succ]
        refine wpAnyL_ready (rs := [27]) (by kernel_rfl) (by simp) hC ?_
        refine AllReadyL.cons (o := { dst := none, op := .store 35 (.tmp 6) (.tmp 120), type := _, pos := _, after := _, guard := none }) rfl (fun K9 hK => ?_) ?_
        · skip
          have y0 : v3.cell? ⟨w.heap.size + 2, 0, none⟩ = some (.slice none 0 0) := (cell_of_row _ _ 0 _ _ _ HY3.out.qb).trans rfl
          have y1 : v3.cell? ⟨w.heap.size + 2, 1, none⟩ = some (.slice none 0 0) := (cell_of_row _ _ 1 _ _ _ HY3.out.qb).trans rfl
          have y2 : v3.cell? ⟨w.heap.size + 2, 2, none⟩ = some (.int .i64 0) := (cell_of_row _ _ 2 _ _ _ HY3.out.qb).trans rfl
          have y3 : v3.cell? ⟨w.heap.size + 2, 3, none⟩ = some (.bool false) := (cell_of_row _ _ 3 _ _ _ HY3.out.qb).trans rfl
          have y4 : v3.cell? ⟨w.heap.size + 2, 4, none⟩ = some (.int .i64 0) := (cell_of_row _ _ 4 _ _ _ HY3.out.qb).trans rfl
          have f0 : v3.frozen? ⟨w.heap.size + 2, 0, none⟩ = false := frozen_of_row _ _ _ _ _ HY3.out.qb
          have f1 : v3.frozen? ⟨w.heap.size + 2, 1, none⟩ = false := frozen_of_row _ _ _ _ _ HY3.out.qb
          have f2 : v3.frozen? ⟨w.heap.size + 2, 2, none⟩ = false := frozen_of_row _ _ _ _ _ HY3.out.qb
          have f3 : v3.frozen? ⟨w.heap.size + 2, 3, none⟩ = false := frozen_of_row _ _ _ _ _ HY3.out.qb
          have f4 : v3.frozen? ⟨w.heap.size + 2, 4, none⟩ = false := frozen_of_row _ _ _ _ _ HY3.out.qb
          go_simp
          obtain ⟨v9, hv9⟩ : ∃ v9, v9 = (((((v3.setCell ⟨w.heap.size + 2, 0, none⟩ (.slice A9 n9 c9)).setCell ⟨w.heap.size + 2, 1, none⟩ (.slice B9 m9 k9)).setCell ⟨w.heap.size + 2, 2, none⟩ (.int .i64 d'.ar)).setCell ⟨w.heap.size + 2, 3, none⟩ (.bool d'.go)).setCell ⟨w.heap.size + 2, 4, none⟩ (.int .i64 d'.op)) := ⟨_, rfl⟩
          have HG := Lib.hid (HY3.out.done v9 hv9)
          rw [← hv9]
          clear y0 y1 y2 y3 y4 f0 f1 f2 f3 f4 hv9
          refine hK _ _ HG.out.2.2.2.2.2 (fun hC => ?_)
          clear hK K9
          try simp only [Act.put, List.setIfInBounds_toArray, List.set_cons_zero, List.set_cons_succ]
          refine wpAnyL_take (i := 28) (oi := { dst := some 7, op := .assign (.tmp 146), type := _, pos := _, after := _, guard := none }) (v := ?_) rfl (by kernel_rfl) (by kernel_rfl) (by kernel_rfl) (fun _ _ _ h => h) (fun _ _ => Iff.rfl) hC (Or.inl ⟨by rfl, ?_⟩) HG.out.2.2.2.2.2 (fun hC hS => ?_)
          rotate_left
          · intro W9 hSw; skip; go_simp; try (with_reducible rfl)
          try simp only [Act.put, List.setIfInBounds_toArray, List.set_cons_zero, List.set_cons_succ]
          refine wpAnyL_done (by kernel_rfl) ?_ _
          go_wp2_with fail
          refine bodyPost_ret (results_ctY rfl _ _ (w.heap.size + 2) #[.slice A9 n9 c9, .slice B9 m9 k9, .int .i64 d'.ar, .bool d'.go, .int .i64 d'.op] rfl (run_loadVar_row _ (w.heap.size + 2) 35 35 _ (0, 0) _ HG.out.2.2.2.2.1 Try.underlying35 rfl (by kernel_rfl))) rfl ?_
          exact ⟨_, _, _, _, _, _, rfl, HG.out.1, HG.out.2.1, HG.out.2.2.1, HG.out.2.2.2.1⟩
        exact AllReadyL.nil
      exact AllReadyL.nil
    exact AllReadyL.nil
  exact AllReadyL.nil
end Go.Proofs.Ytiagbadnmkeokaa
