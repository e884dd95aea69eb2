/- The disk family, merged for a claim. Conditions as in its parts. -/
import Derived.Test.YtiagbadnmkeokaaDNf
namespace Go.Proofs.Ytiagbadnmkeokaa
open Go.RowKit Vi

set_option maxRecDepth 100000 in
set_option maxHeartbeats 4000000 in
theorem does2 (n0 : Nat) (w0 : World) (D : Nat) (d : Ds) (k : Nat) (A : Option Addr) (n c : Nat) (A2 : Option Addr) (n2 c2 : Nat) (a : Ac) (w : World) (h : DW n0 w0 D d w) (o : DsOk k d) (hk : k ≤ 1000) (h1 : RdA D stC 1 w A n d.S) (h2 : RdA D wrC 2 w A2 n2 d.C) (hs : a.t.size ≤ 140737488351232) (hkd : a.kd = 2) :
    Calls Try.prog 13 #[.pointer (some ⟨D, 0, none⟩), rdv A n c A2 n2 c2 d.ar d.go d.op, acV a] w (DoesP n0 w0 D (d.red a.at') w) := by
  obtain ⟨d', hd'⟩ : ∃ d', d' = d.red a.at' := ⟨_, rfl⟩
  obtain ⟨z, hz⟩ : ∃ z, z = d.rdE a.at' := ⟨_, rfl⟩
  obtain ⟨ss, hss⟩ : ∃ ss, ss = d.rdS a.at' := ⟨_, rfl⟩
  have HOK := Lib.hid h.dk.at'
  have HQ := Lib.hid (fun (W : World) (A : Option Addr) (n c : Nat) (A2 : Option Addr) (n2 c2 : Nat) (q : RV (fun b => ¬ InD D W b) d A n A2 n2 W) (hP : ∀ b, W.heap.size ≤ b → ¬ InD D W b) => qread (c := c) (c2 := c2) q o hk a.at')
  have HP := Lib.hid (fun (W : World) (q : DW n0 w0 D d W) => pread q o hk a.at')
  rw [← hd', ← hz, ← hss] at HQ HP
  rw [← hd']
  clear hd' hz hss HOK
  obtain ⟨kd, at0, nn, t, rw1, ka, kn, kc, ks⟩ := a
  dsimp only at HQ HP hkd
  subst hkd
  have HZ0 := Lib.hid (bz_start (a := ⟨2, at0, nn, t, rw1, ka, kn, kc, ks⟩) (c := c) (c2 := c2) h h1 h2)
  obtain ⟨v, hv⟩ : ∃ v, v = (((w.alloc (.cells #[.slice A n c, .slice A2 n2 c2, .int .i64 d.ar, .bool d.go, .int .i64 d.op] 35 (0, 0))).alloc (.cells #[.int .i64 2, .int .i64 at0, .int .i64 nn, .string t, .bool rw1, .slice ka kn kc] 39 (0, 0))).alloc (.cells #[.slice none 0 0, .slice none 0 0, .int .i64 0, .bool false, .int .i64 0] 35 (0, 0))) := ⟨_, rfl⟩
  have HV := Lib.hid hv
  have HZ : Hid (Bz n0 w0 w D w.heap.size d d A n c A2 n2 c2 ⟨2, at0, nn, t, rw1, ka, kn, kc, ks⟩ v) := Lib.hid (by rw [hv]; exact HZ0.out)
  clear HZ0 hv h h1 h2
  go_enter Try.func13, Try.ntmps13
  go_upto_region 1 with (fail)
  rw [← HV.out]
  clear HV
  have hk0 : v.cell? ⟨w.heap.size + 1, 0, none⟩ = some (.int .i64 2) := (cell_of_row _ _ 0 _ _ _ HZ.out.ab).trans rfl
  go_upto_region 9 with (fail)
  clear hk0
  have y0 : v.cell? ⟨w.heap.size, 0, none⟩ = some (.slice A n c) := (cell_of_row _ _ 0 _ _ _ HZ.out.rb).trans rfl
  have y1 : v.cell? ⟨w.heap.size, 1, none⟩ = some (.slice A2 n2 c2) := (cell_of_row _ _ 1 _ _ _ HZ.out.rb).trans rfl
  have y2 : v.cell? ⟨w.heap.size, 2, none⟩ = some (.int .i64 d.ar) := (cell_of_row _ _ 2 _ _ _ HZ.out.rb).trans rfl
  have y3 : v.cell? ⟨w.heap.size, 3, none⟩ = some (.bool d.go) := (cell_of_row _ _ 3 _ _ _ HZ.out.rb).trans rfl
  have y4 : v.cell? ⟨w.heap.size, 4, none⟩ = some (.int .i64 d.op) := (cell_of_row _ _ 4 _ _ _ HZ.out.rb).trans rfl
  have x0 : v.cell? ⟨w.heap.size + 1, 1, none⟩ = some (.int .i64 at0) := (cell_of_row _ _ 1 _ _ _ HZ.out.ab).trans rfl
  go_wp2_with fail
  refine (HQ.out _ A n c A2 n2 c2 HZ.out.rv HZ.out.nw).mono ?_
  rintro e w5 ⟨vv, rfl, ⟨A9, n9, c9, B9, m9, k9, rfl, hs5, hc5⟩, hb5⟩
  have HZ5 := Lib.hid (HZ.out.kept hb5)
  have HS5 := Lib.hid (hs5.rdA hb5 HZ.out.dw.lt)
  have HC5 := Lib.hid (hc5.rdA hb5 HZ.out.dw.lt)
  clear hs5 hc5 hb5 HZ HQ
  clear y0 y1 y2 y3 y4 x0
  have HB0 := Lib.hid ((Below.refl w5.heap.size w5).alloc (Nat.le_refl _) (.cells #[.slice none 0 0, .slice none 0 0, .int .i64 0, .bool false, .int .i64 0] 35 (0, 0)))
  have HN0 := Lib.hid (blk_new w5 (.cells #[.slice none 0 0, .slice none 0 0, .int .i64 0, .bool false, .int .i64 0] 35 (0, 0)))
  go_wp2_with (refine wpList_store_rowY rfl 35 (.tmp 10) (.tmp 48) rfl w5.heap.size #[.slice A9 n9 c9, .slice B9 m9 k9, .int .i64 d'.ar, .bool d'.go, .int .i64 d'.op] rfl rfl 35 _ HN0.out info_rd rfl (by simp [Value.oneCell']) w5.heap.size w5 HB0.out (Nat.le_refl _) ?_)
  intro w6 hbk hoth hbel _
  have HX6 := Lib.hid hbk.out
  have HZ6 := Lib.hid (HZ5.out.kept hbel.out)
  have HN6 := Lib.hid (fun q : InD D w6 w5.heap.size => HZ5.out.nw _ (Nat.le_refl _) (q.back hbel.out HZ5.out.dw.lt))
  have HS6 := Lib.hid (HS5.out.kd (Kd.of_below hbel.out HZ5.out.dw.lt))
  have HC6 := Lib.hid (HC5.out.kd (Kd.of_below hbel.out HZ5.out.dw.lt))
  have HLE := Lib.hid (lt_of_block HZ5.out.qb)
  clear hbk hoth hbel HB0 HN0 HZ5 HS5 HC5
  generalize w5.heap.size = xi at *
  have x0 : w6.cell? ⟨w.heap.size + 1, 1, none⟩ = some (.int .i64 at0) := (cell_of_row _ _ 1 _ _ _ HZ6.out.ab).trans rfl
  go_wp2_with fail
  refine (HP.out _ HZ6.out.dw).mono ?_
  rintro e w3 ⟨rfl, hd3, hk3⟩
  have HZ3 := Lib.hid (HZ6.out.prog hk3 hd3)
  have HS3 := Lib.hid (HS6.out.kd hk3)
  have HC3 := Lib.hid (HC6.out.kd hk3)
  have HX3 := Lib.hid ((hk3.block _ (lt_of_block HX6.out) HN6.out).trans HX6.out)
  clear hd3 hk3 HZ6 HP HS6 HC6 HX6 HN6 x0
  have z0 : w3.cell? ⟨xi, 0, none⟩ = some (.slice A9 n9 c9) := (cell_of_row _ _ 0 _ _ _ HX3.out).trans rfl
  have z1 : w3.cell? ⟨xi, 1, none⟩ = some (.slice B9 m9 k9) := (cell_of_row _ _ 1 _ _ _ HX3.out).trans rfl
  have z2 : w3.cell? ⟨xi, 2, none⟩ = some (.int .i64 d'.ar) := (cell_of_row _ _ 2 _ _ _ HX3.out).trans rfl
  have z3 : w3.cell? ⟨xi, 3, none⟩ = some (.bool d'.go) := (cell_of_row _ _ 3 _ _ _ HX3.out).trans rfl
  have z4 : w3.cell? ⟨xi, 4, none⟩ = some (.int .i64 d'.op) := (cell_of_row _ _ 4 _ _ _ HX3.out).trans rfl
  have y0 : w3.cell? ⟨w.heap.size, 0, none⟩ = some (.slice A n c) := (cell_of_row _ _ 0 _ _ _ HZ3.out.rb).trans rfl
  have y1 : w3.cell? ⟨w.heap.size, 1, none⟩ = some (.slice A2 n2 c2) := (cell_of_row _ _ 1 _ _ _ HZ3.out.rb).trans rfl
  have y2 : w3.cell? ⟨w.heap.size, 2, none⟩ = some (.int .i64 d.ar) := (cell_of_row _ _ 2 _ _ _ HZ3.out.rb).trans rfl
  have y3 : w3.cell? ⟨w.heap.size, 3, none⟩ = some (.bool d.go) := (cell_of_row _ _ 3 _ _ _ HZ3.out.rb).trans rfl
  have y4 : w3.cell? ⟨w.heap.size, 4, none⟩ = some (.int .i64 d.op) := (cell_of_row _ _ 4 _ _ _ HZ3.out.rb).trans rfl
  have f0 : w3.frozen? ⟨w.heap.size, 0, none⟩ = false := frozen_of_row _ _ _ _ _ HZ3.out.rb
  have f1 : w3.frozen? ⟨w.heap.size, 1, none⟩ = false := frozen_of_row _ _ _ _ _ HZ3.out.rb
  have f2 : w3.frozen? ⟨w.heap.size, 2, none⟩ = false := frozen_of_row _ _ _ _ _ HZ3.out.rb
  have f3 : w3.frozen? ⟨w.heap.size, 3, none⟩ = false := frozen_of_row _ _ _ _ _ HZ3.out.rb
  have f4 : w3.frozen? ⟨w.heap.size, 4, none⟩ = false := frozen_of_row _ _ _ _ _ HZ3.out.rb
  go_upto_region 27 with (fail)
  have HZ4 := Lib.hid (HZ3.out.stored (m := n9) (mc := c9) (m2 := m9) (k2 := k9) HS3.out HC3.out)
  clear y0 y1 y2 y3 y4 f0 f1 f2 f3 f4 z0 z1 z2 z3 z4 HX3 HS3 HC3 HZ3 HLE
  generalize (((((w3.setCell ⟨w.heap.size, 0, none⟩ (.slice A9 n9 c9)).setCell ⟨w.heap.size, 1, none⟩ (.slice B9 m9 k9)).setCell ⟨w.heap.size, 2, none⟩ (.int .i64 d'.ar)).setCell ⟨w.heap.size, 3, none⟩ (.bool d'.go)).setCell ⟨w.heap.size, 4, none⟩ (.int .i64 d'.op)) = w4 at *
  have HY0 := Lib.hid HZ4.out.drew
  refine wp_region_L_drew (S := fun _ W => W.heap[w.heap.size]? = some (.cells (rdC A9 n9 c9 B9 m9 k9 d') 35 (0, 0))) (by kernel_rfl) HY0.out.rb (fun hS hC => ?_)
  generalize w4.drew = v0 at *
  refine wpAnyL_take (i := 0) (oi := { dst := some 120, op := .load 35 (.tmp 4), type := _, pos := _, after := _, guard := none }) (v := ?_) rfl (by kernel_rfl) (by kernel_rfl) (by kernel_rfl) (fun _ _ _ h => h) (fun _ _ => Iff.rfl) hC (Or.inl ⟨by rfl, ?_⟩) hS (fun hC hS => ?_)
  rotate_left
  · intro W9 hSw; have q0 := (cell_of_row _ _ 0 _ _ _ hSw.choose_spec.2.2).trans rfl; have q1 := (cell_of_row _ _ 1 _ _ _ hSw.choose_spec.2.2).trans rfl; have q2 := (cell_of_row _ _ 2 _ _ _ hSw.choose_spec.2.2).trans rfl; have q3 := (cell_of_row _ _ 3 _ _ _ hSw.choose_spec.2.2).trans rfl; have q4 := (cell_of_row _ _ 4 _ _ _ hSw.choose_spec.2.2).trans rfl; go_simp; try (with_reducible rfl)
  try simp only [Act.put, List.setIfInBounds_toArray, List.set_cons_zero, List.set_cons_succ]
  refine wpAnyL_take (i := 1) (oi := { dst := some 121, op := .move (.tmp 8), type := _, pos := _, after := _, guard := none }) (v := ?_) rfl (by kernel_rfl) (by kernel_rfl) (by kernel_rfl) (fun _ _ _ h => h) (fun _ _ => Iff.rfl) hC (Or.inl ⟨by rfl, ?_⟩) hS (fun hC hS => ?_)
  rotate_left
  · intro W9 hSw; skip; go_simp; try (with_reducible rfl)
  try simp only [Act.put, List.setIfInBounds_toArray, List.set_cons_zero, List.set_cons_succ]
  refine wpAnyL_take (i := 2) (oi := { dst := some 122, op := .move (.tmp 9), type := _, pos := _, after := _, guard := none }) (v := ?_) rfl (by kernel_rfl) (by kernel_rfl) (by kernel_rfl) (fun _ _ _ h => h) (fun _ _ => Iff.rfl) hC (Or.inl ⟨by rfl, ?_⟩) hS (fun hC hS => ?_)
  rotate_left
  · intro W9 hSw; skip; go_simp; try (with_reducible rfl)
  try simp only [Act.put, List.setIfInBounds_toArray, List.set_cons_zero, List.set_cons_succ]
  refine wpAnyL_take (i := 3) (oi := { dst := some 123, op := .binOp .eql 3 (.tmp 121) (.tmp 122) 3, type := _, pos := _, after := _, guard := none }) (v := ?_) rfl (by kernel_rfl) (by kernel_rfl) (by kernel_rfl) (fun _ _ _ h => h) (fun _ _ => Iff.rfl) hC (Or.inl ⟨by rfl, ?_⟩) hS (fun hC hS => ?_)
  rotate_left
  · intro W9 hSw; skip; go_simp; try (with_reducible rfl)
  try simp only [Act.put, List.setIfInBounds_toArray, List.set_cons_zero, List.set_cons_succ]
  refine wpAnyL_take (i := 4) (oi := { dst := some 124, op := .move (.tmp 123), type := _, pos := _, after := _, guard := none }) (v := ?_) rfl (by kernel_rfl) (by kernel_rfl) (by kernel_rfl) (fun _ _ _ h => h) (fun _ _ => Iff.rfl) hC (Or.inl ⟨by rfl, ?_⟩) hS (fun hC hS => ?_)
  rotate_left
  · intro W9 hSw; skip; go_simp; try (with_reducible rfl)
  try simp only [Act.put, List.setIfInBounds_toArray, List.set_cons_zero, List.set_cons_succ]
  refine wpAnyL_take (i := 5) (oi := { dst := some 125, op := .move (.tmp 0), type := _, pos := _, after := _, guard := some (4, true) }) (v := ?_) rfl (by kernel_rfl) (by kernel_rfl) (by kernel_rfl) (fun _ _ _ h => h) (fun _ _ => Iff.rfl) hC (Or.inl ⟨by rfl, ?_⟩) hS (fun hC hS => ?_)
  rotate_left
  · intro W9 hSw; skip; go_simp; try (with_reducible rfl)
  try simp only [Act.put, List.setIfInBounds_toArray, List.set_cons_zero, List.set_cons_succ]
  refine wpAnyL_take (i := 7) (oi := { dst := some 127, op := .fieldAddr 35 (.tmp 4) 2, type := _, pos := _, after := _, guard := some (4, true) }) (v := ?_) rfl (by kernel_rfl) (by kernel_rfl) (by kernel_rfl) (fun _ _ _ h => h) (fun _ _ => Iff.rfl) hC (Or.inl ⟨by rfl, ?_⟩) hS (fun hC hS => ?_)
  rotate_left
  · intro W9 hSw; skip; go_simp; try (with_reducible rfl)
  try simp only [Act.put, List.setIfInBounds_toArray, List.set_cons_zero, List.set_cons_succ]
  refine wpAnyL_take (i := 8) (oi := { dst := some 128, op := .load 4 (.tmp 127), type := _, pos := _, after := _, guard := some (4, true) }) (v := ?_) rfl (by kernel_rfl) (by kernel_rfl) (by kernel_rfl) (fun _ _ _ h => h) (fun _ _ => Iff.rfl) hC (Or.inl ⟨by rfl, ?_⟩) hS (fun hC hS => ?_)
  rotate_left
  · intro W9 hSw; have q3 := (cell_of_row _ _ 3 _ _ _ hSw.choose_spec.2.2).trans rfl; go_simp; try (with_reducible rfl)
  try simp only [Act.put, List.setIfInBounds_toArray, List.set_cons_zero, List.set_cons_succ]
  refine wpAnyL_ready (rs := [6]) (by kernel_rfl) (by simp) hC ?_
  refine AllReadyL.cons (o := { dst := some 126, op := .call { callee := .value (.func 23), args := #[.tmp 125], argTypes := #[25] }, type := _, pos := _, after := _, guard := some (4, true) }) rfl (fun K9 hK => ?_) ?_
  · skip
    go_simp
    refine ((dk_tail HY0.out.dw.dk HY0.out.s.1.1).1 _ (Below.refl _ _)).mono ?_
    rintro e v1 ⟨rfl, hb8⟩
    have HY1 := Lib.hid (HY0.out.kept hb8)
    clear hb8 HY0
    refine hK _ _ HY1.out.rb (fun hC => ?_)
    clear hK K9
    try simp only [Act.put, List.setIfInBounds_toArray, List.set_cons_zero, List.set_cons_succ]
    refine wpAnyL_take (i := 9) (oi := { dst := some 129, op := .binOp .eql 4 (.tmp 126) (.tmp 128) 4, type := _, pos := _, after := _, guard := some (4, true) }) (v := ?_) rfl (by kernel_rfl) (by kernel_rfl) (by kernel_rfl) (fun _ _ _ h => h) (fun _ _ => Iff.rfl) hC (Or.inl ⟨by rfl, ?_⟩) HY1.out.rb (fun hC hS => ?_)
    rotate_left
    · intro W9 hSw; skip; go_simp; try (with_reducible rfl)
    try simp only [Act.put, List.setIfInBounds_toArray, List.set_cons_zero, List.set_cons_succ]
    refine wpAnyL_take (i := 10) (oi := { dst := some 130, op := .pick (.tmp 124) (.tmp 129) (.const (.bool false)), type := _, pos := _, after := _, guard := none }) (v := ?_) rfl (by kernel_rfl) (by kernel_rfl) (by kernel_rfl) (fun _ _ _ h => h) (fun _ _ => Iff.rfl) hC (Or.inl ⟨by rfl, ?_⟩) HY1.out.rb (fun hC hS => ?_)
    rotate_left
    · intro W9 hSw; skip; go_simp; try (with_reducible rfl)
    try simp only [Act.put, List.setIfInBounds_toArray, List.set_cons_zero, List.set_cons_succ]
    refine wpAnyL_take (i := 11) (oi := { dst := some 131, op := .move (.tmp 130), type := _, pos := _, after := _, guard := none }) (v := ?_) rfl (by kernel_rfl) (by kernel_rfl) (by kernel_rfl) (fun _ _ _ h => h) (fun _ _ => Iff.rfl) hC (Or.inl ⟨by rfl, ?_⟩) HY1.out.rb (fun hC hS => ?_)
    rotate_left
    · intro W9 hSw; skip; go_simp; try (with_reducible rfl)
    try simp only [Act.put, List.setIfInBounds_toArray, List.set_cons_zero, List.set_cons_succ]
    refine wpAnyL_take (i := 12) (oi := { dst := some 132, op := .move (.tmp 0), type := _, pos := _, after := _, guard := some (11, true) }) (v := ?_) rfl (by kernel_rfl) (by kernel_rfl) (by kernel_rfl) (fun _ _ _ h => h) (fun _ _ => Iff.rfl) hC (Or.inl ⟨by rfl, ?_⟩) HY1.out.rb (fun hC hS => ?_)
    rotate_left
    · intro W9 hSw; skip; go_simp; try (with_reducible rfl)
    try simp only [Act.put, List.setIfInBounds_toArray, List.set_cons_zero, List.set_cons_succ]
    refine wpAnyL_take (i := 14) (oi := { dst := some 134, op := .fieldAddr 35 (.tmp 4) 3, type := _, pos := _, after := _, guard := some (11, true) }) (v := ?_) rfl (by kernel_rfl) (by kernel_rfl) (by kernel_rfl) (fun _ _ _ h => h) (fun _ _ => Iff.rfl) hC (Or.inl ⟨by rfl, ?_⟩) HY1.out.rb (fun hC hS => ?_)
    rotate_left
    · intro W9 hSw; skip; go_simp; try (with_reducible rfl)
    try simp only [Act.put, List.setIfInBounds_toArray, List.set_cons_zero, List.set_cons_succ]
    refine wpAnyL_take (i := 15) (oi := { dst := some 135, op := .load 3 (.tmp 134), type := _, pos := _, after := _, guard := some (11, true) }) (v := ?_) rfl (by kernel_rfl) (by kernel_rfl) (by kernel_rfl) (fun _ _ _ h => h) (fun _ _ => Iff.rfl) hC (Or.inl ⟨by rfl, ?_⟩) HY1.out.rb (fun hC hS => ?_)
    rotate_left
    · intro W9 hSw; have q4 := (cell_of_row _ _ 4 _ _ _ hSw.choose_spec.2.2).trans rfl; go_simp; try (with_reducible rfl)
    try simp only [Act.put, List.setIfInBounds_toArray, List.set_cons_zero, List.set_cons_succ]
    refine wpAnyL_ready (rs := [13]) (by kernel_rfl) (by simp) hC ?_
    refine AllReadyL.cons (o := { dst := some 133, op := .call { callee := .value (.func 28), args := #[.tmp 132], argTypes := #[25] }, type := _, pos := _, after := _, guard := some (11, true) }) rfl (fun K9 hK => ?_) ?_
    · skip
      go_simp
      refine ((dk_tail HY1.out.dw.dk HY1.out.s.1.1).2.1 _ (Below.refl _ _)).mono ?_
      rintro e v2 ⟨rfl, hb8⟩
      have HY2 := Lib.hid (HY1.out.kept hb8)
      clear hb8 HY1
      refine hK _ _ HY2.out.rb (fun hC => ?_)
      clear hK K9
      try simp only [Act.put, List.setIfInBounds_toArray, List.set_cons_zero, List.set_cons_succ]
      refine wpAnyL_take (i := 16) (oi := { dst := some 136, op := .binOp .eql 3 (.tmp 133) (.tmp 135) 3, type := _, pos := _, after := _, guard := some (11, true) }) (v := ?_) rfl (by kernel_rfl) (by kernel_rfl) (by kernel_rfl) (fun _ _ _ h => h) (fun _ _ => Iff.rfl) hC (Or.inl ⟨by rfl, ?_⟩) HY2.out.rb (fun hC hS => ?_)
      rotate_left
      · intro W9 hSw; skip; go_simp; try (with_reducible rfl)
      try simp only [Act.put, List.setIfInBounds_toArray, List.set_cons_zero, List.set_cons_succ]
      refine wpAnyL_take (i := 17) (oi := { dst := some 137, op := .pick (.tmp 131) (.tmp 136) (.const (.bool false)), type := _, pos := _, after := _, guard := none }) (v := ?_) rfl (by kernel_rfl) (by kernel_rfl) (by kernel_rfl) (fun _ _ _ h => h) (fun _ _ => Iff.rfl) hC (Or.inl ⟨by rfl, ?_⟩) HY2.out.rb (fun hC hS => ?_)
      rotate_left
      · intro W9 hSw; skip; go_simp; try (with_reducible rfl)
      try simp only [Act.put, List.setIfInBounds_toArray, List.set_cons_zero, List.set_cons_succ]
      refine wpAnyL_take (i := 18) (oi := { dst := some 138, op := .move (.tmp 137), type := _, pos := _, after := _, guard := none }) (v := ?_) rfl (by kernel_rfl) (by kernel_rfl) (by kernel_rfl) (fun _ _ _ h => h) (fun _ _ => Iff.rfl) hC (Or.inl ⟨by rfl, ?_⟩) HY2.out.rb (fun hC hS => ?_)
      rotate_left
      · intro W9 hSw; skip; go_simp; try (with_reducible rfl)
      try simp only [Act.put, List.setIfInBounds_toArray, List.set_cons_zero, List.set_cons_succ]
      refine wpAnyL_take (i := 19) (oi := { dst := some 139, op := .move (.tmp 0), type := _, pos := _, after := _, guard := some (18, true) }) (v := ?_) rfl (by kernel_rfl) (by kernel_rfl) (by kernel_rfl) (fun _ _ _ h => h) (fun _ _ => Iff.rfl) hC (Or.inl ⟨by rfl, ?_⟩) HY2.out.rb (fun hC hS => ?_)
      rotate_left
      · intro W9 hSw; skip; go_simp; try (with_reducible rfl)
      try simp only [Act.put, List.setIfInBounds_toArray, List.set_cons_zero, List.set_cons_succ]
      refine wpAnyL_take (i := 21) (oi := { dst := some 141, op := .fieldAddr 35 (.tmp 4) 0, type := _, pos := _, after := _, guard := some (18, true) }) (v := ?_) rfl (by kernel_rfl) (by kernel_rfl) (by kernel_rfl) (fun _ _ _ h => h) (fun _ _ => Iff.rfl) hC (Or.inl ⟨by rfl, ?_⟩) HY2.out.rb (fun hC hS => ?_)
      rotate_left
      · intro W9 hSw; skip; go_simp; try (with_reducible rfl)
      try simp only [Act.put, List.setIfInBounds_toArray, List.set_cons_zero, List.set_cons_succ]
      refine wpAnyL_take (i := 22) (oi := { dst := some 142, op := .fieldAddr 32 (.tmp 141) 0, type := _, pos := _, after := _, guard := some (18, true) }) (v := ?_) rfl (by kernel_rfl) (by kernel_rfl) (by kernel_rfl) (fun _ _ _ h => h) (fun _ _ => Iff.rfl) hC (Or.inl ⟨by rfl, ?_⟩) HY2.out.rb (fun hC hS => ?_)
      rotate_left
      · intro W9 hSw; skip; go_simp; try (with_reducible rfl)
      try simp only [Act.put, List.setIfInBounds_toArray, List.set_cons_zero, List.set_cons_succ]
      refine wpAnyL_take (i := 23) (oi := { dst := some 143, op := .load 29 (.tmp 142), type := _, pos := _, after := _, guard := some (18, true) }) (v := ?_) rfl (by kernel_rfl) (by kernel_rfl) (by kernel_rfl) (fun _ _ _ h => h) (fun _ _ => Iff.rfl) hC (Or.inl ⟨by rfl, ?_⟩) HY2.out.rb (fun hC hS => ?_)
      rotate_left
      · intro W9 hSw; have q0 := (cell_of_row _ _ 0 _ _ _ hSw.choose_spec.2.2).trans rfl; go_simp; try (with_reducible rfl)
      try simp only [Act.put, List.setIfInBounds_toArray, List.set_cons_zero, List.set_cons_succ]
      refine wpAnyL_take (i := 24) (oi := { dst := some 144, op := .call { callee := .builtin .len, args := #[.tmp 143], argTypes := #[29] }, type := _, pos := _, after := _, guard := some (18, true) }) (v := ?_) rfl (by kernel_rfl) (by kernel_rfl) (by kernel_rfl) (fun _ _ _ h => h) (fun _ _ => Iff.rfl) hC (Or.inl ⟨by rfl, ?_⟩) HY2.out.rb (fun hC hS => ?_)
      rotate_left
      · intro W9 hSw; skip; go_simp; try (with_reducible rfl)
      try simp only [Act.put, List.setIfInBounds_toArray, List.set_cons_zero, List.set_cons_succ]
      refine wpAnyL_ready (rs := [20]) (by kernel_rfl) (by simp) hC ?_
      refine AllReadyL.cons (o := { dst := some 140, op := .call { callee := .value (.func 27), args := #[.tmp 139], argTypes := #[25] }, type := _, pos := _, after := _, guard := some (18, true) }) rfl (fun K9 hK => ?_) ?_
      · skip
        go_simp
        refine ((dk_tail HY2.out.dw.dk HY2.out.s.1.1).2.2 _ (Below.refl _ _)).mono ?_
        rintro e v3 ⟨rfl, hb8⟩
        have HY3 := Lib.hid (HY2.out.kept hb8)
        clear hb8 HY2
        refine hK _ _ HY3.out.rb (fun hC => ?_)
        clear hK K9
        try simp only [Act.put, List.setIfInBounds_toArray, List.set_cons_zero, List.set_cons_succ]
        refine wpAnyL_take (i := 25) (oi := { dst := some 145, op := .binOp .eql 3 (.tmp 140) (.tmp 144) 3, type := _, pos := _, after := _, guard := some (18, true) }) (v := ?_) rfl (by kernel_rfl) (by kernel_rfl) (by kernel_rfl) (fun _ _ _ h => h) (fun _ _ => Iff.rfl) hC (Or.inl ⟨by rfl, ?_⟩) HY3.out.rb (fun hC hS => ?_)
        rotate_left
        · intro W9 hSw; skip; go_simp; try (with_reducible rfl)
        try simp only [Act.put, List.setIfInBounds_toArray, List.set_cons_zero, List.set_cons_succ]
        refine wpAnyL_take (i := 26) (oi := { dst := some 146, op := .pick (.tmp 138) (.tmp 145) (.const (.bool false)), type := _, pos := _, after := _, guard := none }) (v := ?_) rfl (by kernel_rfl) (by kernel_rfl) (by kernel_rfl) (fun _ _ _ h => h) (fun _ _ => Iff.rfl) hC (Or.inl ⟨by rfl, ?_⟩) HY3.out.rb (fun hC hS => ?_)
        rotate_left
        · intro W9 hSw; skip; go_simp; try (with_reducible rfl)
        try simp only [Act.put, List.setIfInBounds_toArray, List.set_cons_zero, List.set_cons_succ]
        refine wpAnyL_ready (rs := [27]) (by kernel_rfl) (by simp) hC ?_
        refine AllReadyL.cons (o := { dst := none, op := .store 35 (.tmp 6) (.tmp 120), type := _, pos := _, after := _, guard := none }) rfl (fun K9 hK => ?_) ?_
        · skip
          have y0 : v3.cell? ⟨w.heap.size + 2, 0, none⟩ = some (.slice none 0 0) := (cell_of_row _ _ 0 _ _ _ HY3.out.qb).trans rfl
          have y1 : v3.cell? ⟨w.heap.size + 2, 1, none⟩ = some (.slice none 0 0) := (cell_of_row _ _ 1 _ _ _ HY3.out.qb).trans rfl
          have y2 : v3.cell? ⟨w.heap.size + 2, 2, none⟩ = some (.int .i64 0) := (cell_of_row _ _ 2 _ _ _ HY3.out.qb).trans rfl
          have y3 : v3.cell? ⟨w.heap.size + 2, 3, none⟩ = some (.bool false) := (cell_of_row _ _ 3 _ _ _ HY3.out.qb).trans rfl
          have y4 : v3.cell? ⟨w.heap.size + 2, 4, none⟩ = some (.int .i64 0) := (cell_of_row _ _ 4 _ _ _ HY3.out.qb).trans rfl
          have f0 : v3.frozen? ⟨w.heap.size + 2, 0, none⟩ = false := frozen_of_row _ _ _ _ _ HY3.out.qb
          have f1 : v3.frozen? ⟨w.heap.size + 2, 1, none⟩ = false := frozen_of_row _ _ _ _ _ HY3.out.qb
          have f2 : v3.frozen? ⟨w.heap.size + 2, 2, none⟩ = false := frozen_of_row _ _ _ _ _ HY3.out.qb
          have f3 : v3.frozen? ⟨w.heap.size + 2, 3, none⟩ = false := frozen_of_row _ _ _ _ _ HY3.out.qb
          have f4 : v3.frozen? ⟨w.heap.size + 2, 4, none⟩ = false := frozen_of_row _ _ _ _ _ HY3.out.qb
          go_simp
          obtain ⟨v9, hv9⟩ : ∃ v9, v9 = (((((v3.setCell ⟨w.heap.size + 2, 0, none⟩ (.slice A9 n9 c9)).setCell ⟨w.heap.size + 2, 1, none⟩ (.slice B9 m9 k9)).setCell ⟨w.heap.size + 2, 2, none⟩ (.int .i64 d'.ar)).setCell ⟨w.heap.size + 2, 3, none⟩ (.bool d'.go)).setCell ⟨w.heap.size + 2, 4, none⟩ (.int .i64 d'.op)) := ⟨_, rfl⟩
          have HG := Lib.hid (HY3.out.done v9 hv9)
          rw [← hv9]
          clear y0 y1 y2 y3 y4 f0 f1 f2 f3 f4 hv9
          refine hK _ _ HG.out.2.2.2.2.2 (fun hC => ?_)
          clear hK K9
          try simp only [Act.put, List.setIfInBounds_toArray, List.set_cons_zero, List.set_cons_succ]
          refine wpAnyL_take (i := 28) (oi := { dst := some 7, op := .assign (.tmp 146), type := _, pos := _, after := _, guard := none }) (v := ?_) rfl (by kernel_rfl) (by kernel_rfl) (by kernel_rfl) (fun _ _ _ h => h) (fun _ _ => Iff.rfl) hC (Or.inl ⟨by rfl, ?_⟩) HG.out.2.2.2.2.2 (fun hC hS => ?_)
          rotate_left
          · intro W9 hSw; skip; go_simp; try (with_reducible rfl)
          try simp only [Act.put, List.setIfInBounds_toArray, List.set_cons_zero, List.set_cons_succ]
          refine wpAnyL_done (by kernel_rfl) ?_ _
          go_wp2_with fail
          refine bodyPost_ret (results_ctY rfl _ _ (w.heap.size + 2) #[.slice A9 n9 c9, .slice B9 m9 k9, .int .i64 d'.ar, .bool d'.go, .int .i64 d'.op] rfl (run_loadVar_row _ (w.heap.size + 2) 35 35 _ (0, 0) _ HG.out.2.2.2.2.1 Try.underlying35 rfl (by kernel_rfl))) rfl ?_
          exact ⟨_, _, _, _, _, _, rfl, HG.out.1, HG.out.2.1, HG.out.2.2.1, HG.out.2.2.2.1⟩
        exact AllReadyL.nil
      exact AllReadyL.nil
    exact AllReadyL.nil
  exact AllReadyL.nil
end Go.Proofs.Ytiagbadnmkeokaa

namespace Go.Proofs.Ytiagbadnmkeokaa
open Go.RowKit Vi

set_option maxRecDepth 100000 in
set_option maxHeartbeats 4000000 in
theorem does7 (n0 : Nat) (w0 : World) (D : Nat) (d : Ds) (k : Nat) (A : Option Addr) (n c : Nat) (A2 : Option Addr) (n2 c2 : Nat) (a : Ac) (w : World) (h : DW n0 w0 D d w) (o : DsOk k d) (hk : k ≤ 1000) (h1 : RdA D stC 1 w A n d.S) (h2 : RdA D wrC 2 w A2 n2 d.C) (hs : a.t.size ≤ 140737488351232) (hkd : a.kd = 7) :
    Calls Try.prog 13 #[.pointer (some ⟨D, 0, none⟩), rdv A n c A2 n2 c2 d.ar d.go d.op, acV a] w (DoesP n0 w0 D (d.over a.at' (acT a)) w) := by
  obtain ⟨tx, htx⟩ : ∃ tx, tx = acT a := ⟨_, rfl⟩
  obtain ⟨d', hd'⟩ : ∃ d', d' = d.over a.at' (acT a) := ⟨_, rfl⟩
  obtain ⟨z, hz⟩ : ∃ z, z = dckE d.S.length a.at' (acT a) := ⟨_, rfl⟩
  have HT := Lib.hid (fun W : World => atext_any a W hs)
  have HQ := Lib.hid (fun (W : World) (A : Option Addr) (n c : Nat) (A2 : Option Addr) (n2 c2 : Nat) (q : RV (fun b => ¬ InD D W b) d A n A2 n2 W) (hP : ∀ b, W.heap.size ≤ b → ¬ InD D W b) => qover (c := c) (c2 := c2) q o hk hP a.at' (acT a))
  have HP := Lib.hid (fun (W : World) (q : DW n0 w0 D d W) => pover q a.at' (acT a))
  rw [← hd', ← hz] at HQ HP
  rw [← hd']
  rw [← htx] at HT HQ HP
  clear htx hd' hz
  obtain ⟨kd, at0, nn, t, rw1, ka, kn, kc, ks⟩ := a
  dsimp only at HT HQ HP hkd
  subst hkd
  have HZ0 := Lib.hid (bz_start (a := ⟨7, at0, nn, t, rw1, ka, kn, kc, ks⟩) (c := c) (c2 := c2) h h1 h2)
  obtain ⟨v, hv⟩ : ∃ v, v = (((w.alloc (.cells #[.slice A n c, .slice A2 n2 c2, .int .i64 d.ar, .bool d.go, .int .i64 d.op] 35 (0, 0))).alloc (.cells #[.int .i64 7, .int .i64 at0, .int .i64 nn, .string t, .bool rw1, .slice ka kn kc] 39 (0, 0))).alloc (.cells #[.slice none 0 0, .slice none 0 0, .int .i64 0, .bool false, .int .i64 0] 35 (0, 0))) := ⟨_, rfl⟩
  have HV := Lib.hid hv
  have HZ : Hid (Bz n0 w0 w D w.heap.size d d A n c A2 n2 c2 ⟨7, at0, nn, t, rw1, ka, kn, kc, ks⟩ v) := Lib.hid (by rw [hv]; exact HZ0.out)
  clear HZ0 hv h h1 h2
  go_enter Try.func13, Try.ntmps13
  go_upto_region 1 with (fail)
  rw [← HV.out]
  clear HV
  have hk0 : v.cell? ⟨w.heap.size + 1, 0, none⟩ = some (.int .i64 7) := (cell_of_row _ _ 0 _ _ _ HZ.out.ab).trans rfl
  go_upto_region 25 with (fail)
  clear hk0
  refine wp_region_L_drew (S := SB 9 w.heap.size (rdC A n c A2 n2 c2 d) #[.int .i64 7, .int .i64 at0, .int .i64 nn, .string t, .bool rw1, .slice ka kn kc]) (by kernel_rfl) ⟨HZ.out.ab, fun _ => HZ.out.rb⟩ (fun hS hC => ?_)
  have HZ := Lib.hid HZ.out.drew
  generalize v.drew = U at *
  refine wpAnyL_take (i := 0) (oi := { dst := some 106, op := .load 35 (.tmp 4), type := _, pos := _, after := _, guard := none }) (v := ?_) rfl (by kernel_rfl) (by kernel_rfl) (by kernel_rfl) (fun _ _ _ h => h) (SB.set (by decide)) hC (Or.inl ⟨by rfl, ?_⟩) hS (fun hC hS => ?_)
  rotate_left
  · intro W9 hSw; have q0 := (cell_of_row _ _ 0 _ _ _ (SB.rOf hSw 12 (by kernel_rfl))).trans rfl; have q1 := (cell_of_row _ _ 1 _ _ _ (SB.rOf hSw 12 (by kernel_rfl))).trans rfl; have q2 := (cell_of_row _ _ 2 _ _ _ (SB.rOf hSw 12 (by kernel_rfl))).trans rfl; have q3 := (cell_of_row _ _ 3 _ _ _ (SB.rOf hSw 12 (by kernel_rfl))).trans rfl; have q4 := (cell_of_row _ _ 4 _ _ _ (SB.rOf hSw 12 (by kernel_rfl))).trans rfl; go_simp; try (with_reducible rfl)
  try simp only [Act.put, List.setIfInBounds_toArray, List.set_cons_zero, List.set_cons_succ]
  refine wpAnyL_take (i := 1) (oi := { dst := some 107, op := .fieldAddr 39 (.tmp 5) 1, type := _, pos := _, after := _, guard := none }) (v := ?_) rfl (by kernel_rfl) (by kernel_rfl) (by kernel_rfl) (fun _ _ _ h => h) (SB.set (by decide)) hC (Or.inl ⟨by rfl, ?_⟩) hS (fun hC hS => ?_)
  rotate_left
  · intro W9 hSw; skip; go_simp; try (with_reducible rfl)
  try simp only [Act.put, List.setIfInBounds_toArray, List.set_cons_zero, List.set_cons_succ]
  refine wpAnyL_take (i := 2) (oi := { dst := some 108, op := .load 3 (.tmp 107), type := _, pos := _, after := _, guard := none }) (v := ?_) rfl (by kernel_rfl) (by kernel_rfl) (by kernel_rfl) (fun _ _ _ h => h) (SB.set (by decide)) hC (Or.inl ⟨by rfl, ?_⟩) hS (fun hC hS => ?_)
  rotate_left
  · intro W9 hSw; have q1 := (cell_of_row _ _ 1 _ _ _ (SB.aOf hSw)).trans rfl; go_simp; try (with_reducible rfl)
  try simp only [Act.put, List.setIfInBounds_toArray, List.set_cons_zero, List.set_cons_succ]
  refine wpAnyL_take (i := 3) (oi := { dst := some 109, op := .load 39 (.tmp 5), type := _, pos := _, after := _, guard := none }) (v := ?_) rfl (by kernel_rfl) (by kernel_rfl) (by kernel_rfl) (fun _ _ _ h => h) (SB.set (by decide)) hC (Or.inl ⟨by rfl, ?_⟩) hS (fun hC hS => ?_)
  rotate_left
  · intro W9 hSw; have q0 := (cell_of_row _ _ 0 _ _ _ (SB.aOf hSw)).trans rfl; have q1 := (cell_of_row _ _ 1 _ _ _ (SB.aOf hSw)).trans rfl; have q2 := (cell_of_row _ _ 2 _ _ _ (SB.aOf hSw)).trans rfl; have q3 := (cell_of_row _ _ 3 _ _ _ (SB.aOf hSw)).trans rfl; have q4 := (cell_of_row _ _ 4 _ _ _ (SB.aOf hSw)).trans rfl; have q5 := (cell_of_row _ _ 5 _ _ _ (SB.aOf hSw)).trans rfl; go_simp; try (with_reducible rfl)
  try simp only [Act.put, List.setIfInBounds_toArray, List.set_cons_zero, List.set_cons_succ]
  refine wpAnyL_ready (rs := [4]) (by kernel_rfl) (by simp) hC ?_
  refine AllReadyL.cons (o := { dst := some 110, op := .call { callee := .value (.func 21), args := #[.tmp 109], argTypes := #[39] }, type := _, pos := _, after := _, guard := none }) rfl (fun K9 hK => ?_) ?_
  · skip
    go_simp
    refine (HT.out _).mono ?_
    rintro e w4 ⟨rfl, hb4⟩
    have HZ4 := Lib.hid (HZ.out.kept hb4)
    clear hb4 HZ
    refine hK _ _ ⟨HZ4.out.ab, fun _ => HZ4.out.rb⟩ (fun hC => ?_)
    clear hK K9
    try simp only [Act.put, List.setIfInBounds_toArray, List.set_cons_zero, List.set_cons_succ]
    refine wpAnyL_ready (rs := [5]) (by kernel_rfl) (by simp) hC ?_
    refine AllReadyL.cons (o := { dst := some 111, op := .call { callee := .value (.func 51), args := #[.tmp 106, .tmp 108, .tmp 110], argTypes := #[35, 3, 9] }, type := _, pos := _, after := _, guard := none }) rfl (fun K9 hK => ?_) ?_
    · skip
      go_simp
      refine (HQ.out _ A n c A2 n2 c2 HZ4.out.rv HZ4.out.nw).mono ?_
      rintro e w5 ⟨vv, rfl, ⟨A9, n9, c9, B9, m9, k9, rfl, hs5, hc5⟩, hb5⟩
      have HZ5 := Lib.hid (HZ4.out.kept hb5)
      have HS5 := Lib.hid (hs5.rdA hb5 HZ4.out.dw.lt)
      have HC5 := Lib.hid (hc5.rdA hb5 HZ4.out.dw.lt)
      clear hs5 hc5 hb5 HZ4 HQ
      refine hK _ _ ⟨HZ5.out.ab, fun _ => HZ5.out.rb⟩ (fun hC => ?_)
      clear hK K9
      try simp only [Act.put, List.setIfInBounds_toArray, List.set_cons_zero, List.set_cons_succ]
      refine wpAnyL_take (i := 6) (oi := { dst := some 105, op := .move (.tmp 111), type := _, pos := _, after := _, guard := none }) (v := ?_) rfl (by kernel_rfl) (by kernel_rfl) (by kernel_rfl) (fun _ _ _ h => h) (SB.set (by decide)) hC (Or.inl ⟨by rfl, ?_⟩) ⟨HZ5.out.ab, fun _ => HZ5.out.rb⟩ (fun hC hS => ?_)
      rotate_left
      · intro W9 hSw; skip; go_simp; try (with_reducible rfl)
      try simp only [Act.put, List.setIfInBounds_toArray, List.set_cons_zero, List.set_cons_succ]
      refine wpAnyL_take (i := 7) (oi := { dst := some 112, op := .extract (.tmp 105) 0, type := _, pos := _, after := _, guard := none }) (v := ?_) rfl (by kernel_rfl) (by kernel_rfl) (by kernel_rfl) (fun _ _ _ h => h) (SB.set (by decide)) hC (Or.inl ⟨by rfl, ?_⟩) ⟨HZ5.out.ab, fun _ => HZ5.out.rb⟩ (fun hC hS => ?_)
      rotate_left
      · intro W9 hSw; skip; go_simp; try (with_reducible rfl)
      try simp only [Act.put, List.setIfInBounds_toArray, List.set_cons_zero, List.set_cons_succ]
      refine wpAnyL_take (i := 8) (oi := { dst := some 113, op := .extract (.tmp 105) 1, type := _, pos := _, after := _, guard := none }) (v := ?_) rfl (by kernel_rfl) (by kernel_rfl) (by kernel_rfl) (fun _ _ _ h => h) (SB.set (by decide)) hC (Or.inl ⟨by rfl, ?_⟩) ⟨HZ5.out.ab, fun _ => HZ5.out.rb⟩ (fun hC hS => ?_)
      rotate_left
      · intro W9 hSw; skip; go_simp; try (with_reducible rfl)
      try simp only [Act.put, List.setIfInBounds_toArray, List.set_cons_zero, List.set_cons_succ]
      refine wpAnyL_ready (rs := [9]) (by kernel_rfl) (by simp) hC ?_
      refine AllReadyL.cons (o := { dst := none, op := .store 35 (.tmp 4) (.tmp 112), type := _, pos := _, after := _, guard := none }) rfl (fun K9 hK => ?_) ?_
      · skip
        have y0 : (w5).cell? ⟨w.heap.size, 0, none⟩ = some (.slice A n c) := (cell_of_row _ _ 0 _ _ _ HZ5.out.rb).trans rfl
        have y1 : (w5).cell? ⟨w.heap.size, 1, none⟩ = some (.slice A2 n2 c2) := (cell_of_row _ _ 1 _ _ _ HZ5.out.rb).trans rfl
        have y2 : (w5).cell? ⟨w.heap.size, 2, none⟩ = some (.int .i64 d.ar) := (cell_of_row _ _ 2 _ _ _ HZ5.out.rb).trans rfl
        have y3 : (w5).cell? ⟨w.heap.size, 3, none⟩ = some (.bool d.go) := (cell_of_row _ _ 3 _ _ _ HZ5.out.rb).trans rfl
        have y4 : (w5).cell? ⟨w.heap.size, 4, none⟩ = some (.int .i64 d.op) := (cell_of_row _ _ 4 _ _ _ HZ5.out.rb).trans rfl
        have f0 : (w5).frozen? ⟨w.heap.size, 0, none⟩ = false := frozen_of_row _ _ _ _ _ HZ5.out.rb
        have f1 : (w5).frozen? ⟨w.heap.size, 1, none⟩ = false := frozen_of_row _ _ _ _ _ HZ5.out.rb
        have f2 : (w5).frozen? ⟨w.heap.size, 2, none⟩ = false := frozen_of_row _ _ _ _ _ HZ5.out.rb
        have f3 : (w5).frozen? ⟨w.heap.size, 3, none⟩ = false := frozen_of_row _ _ _ _ _ HZ5.out.rb
        have f4 : (w5).frozen? ⟨w.heap.size, 4, none⟩ = false := frozen_of_row _ _ _ _ _ HZ5.out.rb
        go_simp
        have HZ6 := Lib.hid (HZ5.out.stored (m := n9) (mc := c9) (m2 := m9) (k2 := k9) HS5.out HC5.out)
        clear y0 y1 y2 y3 y4 f0 f1 f2 f3 f4 HS5 HC5 HZ5
        generalize (((((w5.setCell ⟨w.heap.size, 0, none⟩ (.slice A9 n9 c9)).setCell ⟨w.heap.size, 1, none⟩ (.slice B9 m9 k9)).setCell ⟨w.heap.size, 2, none⟩ (.int .i64 d'.ar)).setCell ⟨w.heap.size, 3, none⟩ (.bool d'.go)).setCell ⟨w.heap.size, 4, none⟩ (.int .i64 d'.op)) = w6 at *
        refine hK _ _ ⟨HZ6.out.ab, fun q => absurd q (by decide)⟩ (fun hC => ?_)
        clear hK K9
        try simp only [Act.put, List.setIfInBounds_toArray, List.set_cons_zero, List.set_cons_succ]
        refine wpAnyL_take (i := 10) (oi := { dst := some 9, op := .assign (.tmp 113), type := _, pos := _, after := _, guard := none }) (v := ?_) rfl (by kernel_rfl) (by kernel_rfl) (by kernel_rfl) (fun _ _ _ h => h) (SB.set (by decide)) hC (Or.inl ⟨by rfl, ?_⟩) ⟨HZ6.out.ab, fun q => absurd q (by decide)⟩ (fun hC hS => ?_)
        rotate_left
        · intro W9 hSw; skip; go_simp; try (with_reducible rfl)
        try simp only [Act.put, List.setIfInBounds_toArray, List.set_cons_zero, List.set_cons_succ]
        refine wpAnyL_done (by kernel_rfl) ?_ _
        go_upto_region 26 with (fail)
        clear hS hC
        have HZ6 := Lib.hid HZ6.out.drew
        refine wp_region_L_drew (S := fun _ W => W.heap[w.heap.size + 1]? = some (.cells #[.int .i64 7, .int .i64 at0, .int .i64 nn, .string t, .bool rw1, .slice ka kn kc] 39 (0, 0))) (by kernel_rfl) HZ6.out.ab (fun hS hC => ?_)
        generalize w6.drew = u6 at *
        refine wpAnyL_take (i := 0) (oi := { dst := some 114, op := .move (.tmp 0), type := _, pos := _, after := _, guard := none }) (v := ?_) rfl (by kernel_rfl) (by kernel_rfl) (by kernel_rfl) (fun _ _ _ h => h) (fun _ _ => Iff.rfl) hC (Or.inl ⟨by rfl, ?_⟩) hS (fun hC hS => ?_)
        rotate_left
        · intro W9 hSw; skip; go_simp; try (with_reducible rfl)
        try simp only [Act.put, List.setIfInBounds_toArray, List.set_cons_zero, List.set_cons_succ]
        refine wpAnyL_take (i := 1) (oi := { dst := some 115, op := .fieldAddr 39 (.tmp 5) 1, type := _, pos := _, after := _, guard := none }) (v := ?_) rfl (by kernel_rfl) (by kernel_rfl) (by kernel_rfl) (fun _ _ _ h => h) (fun _ _ => Iff.rfl) hC (Or.inl ⟨by rfl, ?_⟩) hS (fun hC hS => ?_)
        rotate_left
        · intro W9 hSw; skip; go_simp; try (with_reducible rfl)
        try simp only [Act.put, List.setIfInBounds_toArray, List.set_cons_zero, List.set_cons_succ]
        refine wpAnyL_take (i := 2) (oi := { dst := some 116, op := .load 3 (.tmp 115), type := _, pos := _, after := _, guard := none }) (v := ?_) rfl (by kernel_rfl) (by kernel_rfl) (by kernel_rfl) (fun _ _ _ h => h) (fun _ _ => Iff.rfl) hC (Or.inl ⟨by rfl, ?_⟩) hS (fun hC hS => ?_)
        rotate_left
        · intro W9 hSw; have q1 := (cell_of_row _ _ 1 _ _ _ hSw.choose_spec.2.2).trans rfl; go_simp; try (with_reducible rfl)
        try simp only [Act.put, List.setIfInBounds_toArray, List.set_cons_zero, List.set_cons_succ]
        refine wpAnyL_take (i := 3) (oi := { dst := some 117, op := .load 39 (.tmp 5), type := _, pos := _, after := _, guard := none }) (v := ?_) rfl (by kernel_rfl) (by kernel_rfl) (by kernel_rfl) (fun _ _ _ h => h) (fun _ _ => Iff.rfl) hC (Or.inl ⟨by rfl, ?_⟩) hS (fun hC hS => ?_)
        rotate_left
        · intro W9 hSw; have q0 := (cell_of_row _ _ 0 _ _ _ hSw.choose_spec.2.2).trans rfl; have q1 := (cell_of_row _ _ 1 _ _ _ hSw.choose_spec.2.2).trans rfl; have q2 := (cell_of_row _ _ 2 _ _ _ hSw.choose_spec.2.2).trans rfl; have q3 := (cell_of_row _ _ 3 _ _ _ hSw.choose_spec.2.2).trans rfl; have q4 := (cell_of_row _ _ 4 _ _ _ hSw.choose_spec.2.2).trans rfl; have q5 := (cell_of_row _ _ 5 _ _ _ hSw.choose_spec.2.2).trans rfl; go_simp; try (with_reducible rfl)
        try simp only [Act.put, List.setIfInBounds_toArray, List.set_cons_zero, List.set_cons_succ]
        refine wpAnyL_ready (rs := [4]) (by kernel_rfl) (by simp) hC ?_
        refine AllReadyL.cons (o := { dst := some 118, op := .call { callee := .value (.func 21), args := #[.tmp 117], argTypes := #[39] }, type := _, pos := _, after := _, guard := none }) rfl (fun K9 hK => ?_) ?_
        · skip
          go_simp
          refine (HT.out _).mono ?_
          rintro e w7 ⟨rfl, hb7⟩
          have HZ7 := Lib.hid (HZ6.out.kept hb7)
          clear hb7 HZ6
          refine hK _ _ HZ7.out.ab (fun hC => ?_)
          clear hK K9
          try simp only [Act.put, List.setIfInBounds_toArray, List.set_cons_zero, List.set_cons_succ]
          refine wpAnyL_ready (rs := [5]) (by kernel_rfl) (by simp) hC ?_
          refine AllReadyL.cons (o := { dst := some 119, op := .call { callee := .value (.func 26), args := #[.tmp 114, .tmp 116, .tmp 118], argTypes := #[25, 3, 9] }, type := _, pos := _, after := _, guard := none }) rfl (fun K9 hK => ?_) ?_
          · skip
            go_simp
            refine (HP.out _ HZ7.out.dw).mono ?_
            rintro e w3 ⟨rfl, hd3, hk3⟩
            have HZ3 := Lib.hid (HZ7.out.prog hk3 hd3)
            clear hd3 hk3 HZ7 HP HT
            refine hK _ _ HZ3.out.ab (fun hC => ?_)
            clear hK K9
            try simp only [Act.put, List.setIfInBounds_toArray, List.set_cons_zero, List.set_cons_succ]
            refine wpAnyL_take (i := 6) (oi := { dst := some 8, op := .assign (.tmp 119), type := _, pos := _, after := _, guard := none }) (v := ?_) rfl (by kernel_rfl) (by kernel_rfl) (by kernel_rfl) (fun _ _ _ h => h) (fun _ _ => Iff.rfl) hC (Or.inl ⟨by rfl, ?_⟩) HZ3.out.ab (fun hC hS => ?_)
            rotate_left
            · intro W9 hSw; skip; go_simp; try (with_reducible rfl)
            try simp only [Act.put, List.setIfInBounds_toArray, List.set_cons_zero, List.set_cons_succ]
            refine wpAnyL_done (by kernel_rfl) ?_ _
            clear hS hC
            go_upto_region 27 with (fail)
            have HY0 := Lib.hid HZ3.out.drew
            refine wp_region_L_drew (S := fun _ W => W.heap[w.heap.size]? = some (.cells (rdC A9 n9 c9 B9 m9 k9 d') 35 (0, 0))) (by kernel_rfl) HY0.out.rb (fun hS hC => ?_)
            generalize w3.drew = v0 at *
            refine wpAnyL_take (i := 0) (oi := { dst := some 120, op := .load 35 (.tmp 4), type := _, pos := _, after := _, guard := none }) (v := ?_) rfl (by kernel_rfl) (by kernel_rfl) (by kernel_rfl) (fun _ _ _ h => h) (fun _ _ => Iff.rfl) hC (Or.inl ⟨by rfl, ?_⟩) hS (fun hC hS => ?_)
            rotate_left
            · intro W9 hSw; have q0 := (cell_of_row _ _ 0 _ _ _ hSw.choose_spec.2.2).trans rfl; have q1 := (cell_of_row _ _ 1 _ _ _ hSw.choose_spec.2.2).trans rfl; have q2 := (cell_of_row _ _ 2 _ _ _ hSw.choose_spec.2.2).trans rfl; have q3 := (cell_of_row _ _ 3 _ _ _ hSw.choose_spec.2.2).trans rfl; have q4 := (cell_of_row _ _ 4 _ _ _ hSw.choose_spec.2.2).trans rfl; go_simp; try (with_reducible rfl)
            try simp only [Act.put, List.setIfInBounds_toArray, List.set_cons_zero, List.set_cons_succ]
            refine wpAnyL_take (i := 1) (oi := { dst := some 121, op := .move (.tmp 8), type := _, pos := _, after := _, guard := none }) (v := ?_) rfl (by kernel_rfl) (by kernel_rfl) (by kernel_rfl) (fun _ _ _ h => h) (fun _ _ => Iff.rfl) hC (Or.inl ⟨by rfl, ?_⟩) hS (fun hC hS => ?_)
            rotate_left
            · intro W9 hSw; skip; go_simp; try (with_reducible rfl)
            try simp only [Act.put, List.setIfInBounds_toArray, List.set_cons_zero, List.set_cons_succ]
            refine wpAnyL_take (i := 2) (oi := { dst := some 122, op := .move (.tmp 9), type := _, pos := _, after := _, guard := none }) (v := ?_) rfl (by kernel_rfl) (by kernel_rfl) (by kernel_rfl) (fun _ _ _ h => h) (fun _ _ => Iff.rfl) hC (Or.inl ⟨by rfl, ?_⟩) hS (fun hC hS => ?_)
            rotate_left
            · intro W9 hSw; skip; go_simp; try (with_reducible rfl)
            try simp only [Act.put, List.setIfInBounds_toArray, List.set_cons_zero, List.set_cons_succ]
            refine wpAnyL_take (i := 3) (oi := { dst := some 123, op := .binOp .eql 3 (.tmp 121) (.tmp 122) 3, type := _, pos := _, after := _, guard := none }) (v := ?_) rfl (by kernel_rfl) (by kernel_rfl) (by kernel_rfl) (fun _ _ _ h => h) (fun _ _ => Iff.rfl) hC (Or.inl ⟨by rfl, ?_⟩) hS (fun hC hS => ?_)
            rotate_left
            · intro W9 hSw; skip; go_simp; try (with_reducible rfl)
            try simp only [Act.put, List.setIfInBounds_toArray, List.set_cons_zero, List.set_cons_succ]
            refine wpAnyL_take (i := 4) (oi := { dst := some 124, op := .move (.tmp 123), type := _, pos := _, after := _, guard := none }) (v := ?_) rfl (by kernel_rfl) (by kernel_rfl) (by kernel_rfl) (fun _ _ _ h => h) (fun _ _ => Iff.rfl) hC (Or.inl ⟨by rfl, ?_⟩) hS (fun hC hS => ?_)
            rotate_left
            · intro W9 hSw; skip; go_simp; try (with_reducible rfl)
            try simp only [Act.put, List.setIfInBounds_toArray, List.set_cons_zero, List.set_cons_succ]
            refine wpAnyL_take (i := 5) (oi := { dst := some 125, op := .move (.tmp 0), type := _, pos := _, after := _, guard := some (4, true) }) (v := ?_) rfl (by kernel_rfl) (by kernel_rfl) (by kernel_rfl) (fun _ _ _ h => h) (fun _ _ => Iff.rfl) hC (Or.inl ⟨by rfl, ?_⟩) hS (fun hC hS => ?_)
            rotate_left
            · intro W9 hSw; skip; go_simp; try (with_reducible rfl)
            try simp only [Act.put, List.setIfInBounds_toArray, List.set_cons_zero, List.set_cons_succ]
            refine wpAnyL_take (i := 7) (oi := { dst := some 127, op := .fieldAddr 35 (.tmp 4) 2, type := _, pos := _, after := _, guard := some (4, true) }) (v := ?_) rfl (by kernel_rfl) (by kernel_rfl) (by kernel_rfl) (fun _ _ _ h => h) (fun _ _ => Iff.rfl) hC (Or.inl ⟨by rfl, ?_⟩) hS (fun hC hS => ?_)
            rotate_left
            · intro W9 hSw; skip; go_simp; try (with_reducible rfl)
            try simp only [Act.put, List.setIfInBounds_toArray, List.set_cons_zero, List.set_cons_succ]
            refine wpAnyL_take (i := 8) (oi := { dst := some 128, op := .load 4 (.tmp 127), type := _, pos := _, after := _, guard := some (4, true) }) (v := ?_) rfl (by kernel_rfl) (by kernel_rfl) (by kernel_rfl) (fun _ _ _ h => h) (fun _ _ => Iff.rfl) hC (Or.inl ⟨by rfl, ?_⟩) hS (fun hC hS => ?_)
            rotate_left
            · intro W9 hSw; have q3 := (cell_of_row _ _ 3 _ _ _ hSw.choose_spec.2.2).trans rfl; go_simp; try (with_reducible rfl)
            try simp only [Act.put, List.setIfInBounds_toArray, List.set_cons_zero, List.set_cons_succ]
            refine wpAnyL_ready (rs := [6]) (by kernel_rfl) (by simp) hC ?_
            refine AllReadyL.cons (o := { dst := some 126, op := .call { callee := .value (.func 23), args := #[.tmp 125], argTypes := #[25] }, type := _, pos := _, after := _, guard := some (4, true) }) rfl (fun K9 hK => ?_) ?_
            · skip
              go_simp
              refine ((dk_tail HY0.out.dw.dk HY0.out.s.1.1).1 _ (Below.refl _ _)).mono ?_
              rintro e v1 ⟨rfl, hb8⟩
              have HY1 := Lib.hid (HY0.out.kept hb8)
              clear hb8 HY0
              refine hK _ _ HY1.out.rb (fun hC => ?_)
              clear hK K9
              try simp only [Act.put, List.setIfInBounds_toArray, List.set_cons_zero, List.set_cons_succ]
              refine wpAnyL_take (i := 9) (oi := { dst := some 129, op := .binOp .eql 4 (.tmp 126) (.tmp 128) 4, type := _, pos := _, after := _, guard := some (4, true) }) (v := ?_) rfl (by kernel_rfl) (by kernel_rfl) (by kernel_rfl) (fun _ _ _ h => h) (fun _ _ => Iff.rfl) hC (Or.inl ⟨by rfl, ?_⟩) HY1.out.rb (fun hC hS => ?_)
              rotate_left
              · intro W9 hSw; skip; go_simp; try (with_reducible rfl)
              try simp only [Act.put, List.setIfInBounds_toArray, List.set_cons_zero, List.set_cons_succ]
              refine wpAnyL_take (i := 10) (oi := { dst := some 130, op := .pick (.tmp 124) (.tmp 129) (.const (.bool false)), type := _, pos := _, after := _, guard := none }) (v := ?_) rfl (by kernel_rfl) (by kernel_rfl) (by kernel_rfl) (fun _ _ _ h => h) (fun _ _ => Iff.rfl) hC (Or.inl ⟨by rfl, ?_⟩) HY1.out.rb (fun hC hS => ?_)
              rotate_left
              · intro W9 hSw; skip; go_simp; try (with_reducible rfl)
              try simp only [Act.put, List.setIfInBounds_toArray, List.set_cons_zero, List.set_cons_succ]
              refine wpAnyL_take (i := 11) (oi := { dst := some 131, op := .move (.tmp 130), type := _, pos := _, after := _, guard := none }) (v := ?_) rfl (by kernel_rfl) (by kernel_rfl) (by kernel_rfl) (fun _ _ _ h => h) (fun _ _ => Iff.rfl) hC (Or.inl ⟨by rfl, ?_⟩) HY1.out.rb (fun hC hS => ?_)
              rotate_left
              · intro W9 hSw; skip; go_simp; try (with_reducible rfl)
              try simp only [Act.put, List.setIfInBounds_toArray, List.set_cons_zero, List.set_cons_succ]
              refine wpAnyL_take (i := 12) (oi := { dst := some 132, op := .move (.tmp 0), type := _, pos := _, after := _, guard := some (11, true) }) (v := ?_) rfl (by kernel_rfl) (by kernel_rfl) (by kernel_rfl) (fun _ _ _ h => h) (fun _ _ => Iff.rfl) hC (Or.inl ⟨by rfl, ?_⟩) HY1.out.rb (fun hC hS => ?_)
              rotate_left
              · intro W9 hSw; skip; go_simp; try (with_reducible rfl)
              try simp only [Act.put, List.setIfInBounds_toArray, List.set_cons_zero, List.set_cons_succ]
              refine wpAnyL_take (i := 14) (oi := { dst := some 134, op := .fieldAddr 35 (.tmp 4) 3, type := _, pos := _, after := _, guard := some (11, true) }) (v := ?_) rfl (by kernel_rfl) (by kernel_rfl) (by kernel_rfl) (fun _ _ _ h => h) (fun _ _ => Iff.rfl) hC (Or.inl ⟨by rfl, ?_⟩) HY1.out.rb (fun hC hS => ?_)
              rotate_left
              · intro W9 hSw; skip; go_simp; try (with_reducible rfl)
              try simp only [Act.put, List.setIfInBounds_toArray, List.set_cons_zero, List.set_cons_succ]
              refine wpAnyL_take (i := 15) (oi := { dst := some 135, op := .load 3 (.tmp 134), type := _, pos := _, after := _, guard := some (11, true) }) (v := ?_) rfl (by kernel_rfl) (by kernel_rfl) (by kernel_rfl) (fun _ _ _ h => h) (fun _ _ => Iff.rfl) hC (Or.inl ⟨by rfl, ?_⟩) HY1.out.rb (fun hC hS => ?_)
              rotate_left
              · intro W9 hSw; have q4 := (cell_of_row _ _ 4 _ _ _ hSw.choose_spec.2.2).trans rfl; go_simp; try (with_reducible rfl)
              try simp only [Act.put, List.setIfInBounds_toArray, List.set_cons_zero, List.set_cons_succ]
              refine wpAnyL_ready (rs := [13]) (by kernel_rfl) (by simp) hC ?_
              refine AllReadyL.cons (o := { dst := some 133, op := .call { callee := .value (.func 28), args := #[.tmp 132], argTypes := #[25] }, type := _, pos := _, after := _, guard := some (11, true) }) rfl (fun K9 hK => ?_) ?_
              · skip
                go_simp
                refine ((dk_tail HY1.out.dw.dk HY1.out.s.1.1).2.1 _ (Below.refl _ _)).mono ?_
                rintro e v2 ⟨rfl, hb8⟩
                have HY2 := Lib.hid (HY1.out.kept hb8)
                clear hb8 HY1
                refine hK _ _ HY2.out.rb (fun hC => ?_)
                clear hK K9
                try simp only [Act.put, List.setIfInBounds_toArray, List.set_cons_zero, List.set_cons_succ]
                refine wpAnyL_take (i := 16) (oi := { dst := some 136, op := .binOp .eql 3 (.tmp 133) (.tmp 135) 3, type := _, pos := _, after := _, guard := some (11, true) }) (v := ?_) rfl (by kernel_rfl) (by kernel_rfl) (by kernel_rfl) (fun _ _ _ h => h) (fun _ _ => Iff.rfl) hC (Or.inl ⟨by rfl, ?_⟩) HY2.out.rb (fun hC hS => ?_)
                rotate_left
                · intro W9 hSw; skip; go_simp; try (with_reducible rfl)
                try simp only [Act.put, List.setIfInBounds_toArray, List.set_cons_zero, List.set_cons_succ]
                refine wpAnyL_take (i := 17) (oi := { dst := some 137, op := .pick (.tmp 131) (.tmp 136) (.const (.bool false)), type := _, pos := _, after := _, guard := none }) (v := ?_) rfl (by kernel_rfl) (by kernel_rfl) (by kernel_rfl) (fun _ _ _ h => h) (fun _ _ => Iff.rfl) hC (Or.inl ⟨by rfl, ?_⟩) HY2.out.rb (fun hC hS => ?_)
                rotate_left
                · intro W9 hSw; skip; go_simp; try (with_reducible rfl)
                try simp only [Act.put, List.setIfInBounds_toArray, List.set_cons_zero, List.set_cons_succ]
                refine wpAnyL_take (i := 18) (oi := { dst := some 138, op := .move (.tmp 137), type := _, pos := _, after := _, guard := none }) (v := ?_) rfl (by kernel_rfl) (by kernel_rfl) (by kernel_rfl) (fun _ _ _ h => h) (fun _ _ => Iff.rfl) hC (Or.inl ⟨by rfl, ?_⟩) HY2.out.rb (fun hC hS => ?_)
                rotate_left
                · intro W9 hSw; skip; go_simp; try (with_reducible rfl)
                try simp only [Act.put, List.setIfInBounds_toArray, List.set_cons_zero, List.set_cons_succ]
                refine wpAnyL_take (i := 19) (oi := { dst := some 139, op := .move (.tmp 0), type := _, pos := _, after := _, guard := some (18, true) }) (v := ?_) rfl (by kernel_rfl) (by kernel_rfl) (by kernel_rfl) (fun _ _ _ h => h) (fun _ _ => Iff.rfl) hC (Or.inl ⟨by rfl, ?_⟩) HY2.out.rb (fun hC hS => ?_)
                rotate_left
                · intro W9 hSw; skip; go_simp; try (with_reducible rfl)
                try simp only [Act.put, List.setIfInBounds_toArray, List.set_cons_zero, List.set_cons_succ]
                refine wpAnyL_take (i := 21) (oi := { dst := some 141, op := .fieldAddr 35 (.tmp 4) 0, type := _, pos := _, after := _, guard := some (18, true) }) (v := ?_) rfl (by kernel_rfl) (by kernel_rfl) (by kernel_rfl) (fun _ _ _ h => h) (fun _ _ => Iff.rfl) hC (Or.inl ⟨by rfl, ?_⟩) HY2.out.rb (fun hC hS => ?_)
                rotate_left
                · intro W9 hSw; skip; go_simp; try (with_reducible rfl)
                try simp only [Act.put, List.setIfInBounds_toArray, List.set_cons_zero, List.set_cons_succ]
                refine wpAnyL_take (i := 22) (oi := { dst := some 142, op := .fieldAddr 32 (.tmp 141) 0, type := _, pos := _, after := _, guard := some (18, true) }) (v := ?_) rfl (by kernel_rfl) (by kernel_rfl) (by kernel_rfl) (fun _ _ _ h => h) (fun _ _ => Iff.rfl) hC (Or.inl ⟨by rfl, ?_⟩) HY2.out.rb (fun hC hS => ?_)
                rotate_left
                · intro W9 hSw; skip; go_simp; try (with_reducible rfl)
                try simp only [Act.put, List.setIfInBounds_toArray, List.set_cons_zero, List.set_cons_succ]
                refine wpAnyL_take (i := 23) (oi := { dst := some 143, op := .load 29 (.tmp 142), type := _, pos := _, after := _, guard := some (18, true) }) (v := ?_) rfl (by kernel_rfl) (by kernel_rfl) (by kernel_rfl) (fun _ _ _ h => h) (fun _ _ => Iff.rfl) hC (Or.inl ⟨by rfl, ?_⟩) HY2.out.rb (fun hC hS => ?_)
                rotate_left
                · intro W9 hSw; have q0 := (cell_of_row _ _ 0 _ _ _ hSw.choose_spec.2.2).trans rfl; go_simp; try (with_reducible rfl)
                try simp only [Act.put, List.setIfInBounds_toArray, List.set_cons_zero, List.set_cons_succ]
                refine wpAnyL_take (i := 24) (oi := { dst := some 144, op := .call { callee := .builtin .len, args := #[.tmp 143], argTypes := #[29] }, type := _, pos := _, after := _, guard := some (18, true) }) (v := ?_) rfl (by kernel_rfl) (by kernel_rfl) (by kernel_rfl) (fun _ _ _ h => h) (fun _ _ => Iff.rfl) hC (Or.inl ⟨by rfl, ?_⟩) HY2.out.rb (fun hC hS => ?_)
                rotate_left
                · intro W9 hSw; skip; go_simp; try (with_reducible rfl)
                try simp only [Act.put, List.setIfInBounds_toArray, List.set_cons_zero, List.set_cons_succ]
                refine wpAnyL_ready (rs := [20]) (by kernel_rfl) (by simp) hC ?_
                refine AllReadyL.cons (o := { dst := some 140, op := .call { callee := .value (.func 27), args := #[.tmp 139], argTypes := #[25] }, type := _, pos := _, after := _, guard := some (18, true) }) rfl (fun K9 hK => ?_) ?_
                · skip
                  go_simp
                  refine ((dk_tail HY2.out.dw.dk HY2.out.s.1.1).2.2 _ (Below.refl _ _)).mono ?_
                  rintro e v3 ⟨rfl, hb8⟩
                  have HY3 := Lib.hid (HY2.out.kept hb8)
                  clear hb8 HY2
                  refine hK _ _ HY3.out.rb (fun hC => ?_)
                  clear hK K9
                  try simp only [Act.put, List.setIfInBounds_toArray, List.set_cons_zero, List.set_cons_succ]
                  refine wpAnyL_take (i := 25) (oi := { dst := some 145, op := .binOp .eql 3 (.tmp 140) (.tmp 144) 3, type := _, pos := _, after := _, guard := some (18, true) }) (v := ?_) rfl (by kernel_rfl) (by kernel_rfl) (by kernel_rfl) (fun _ _ _ h => h) (fun _ _ => Iff.rfl) hC (Or.inl ⟨by rfl, ?_⟩) HY3.out.rb (fun hC hS => ?_)
                  rotate_left
                  · intro W9 hSw; skip; go_simp; try (with_reducible rfl)
                  try simp only [Act.put, List.setIfInBounds_toArray, List.set_cons_zero, List.set_cons_succ]
                  refine wpAnyL_take (i := 26) (oi := { dst := some 146, op := .pick (.tmp 138) (.tmp 145) (.const (.bool false)), type := _, pos := _, after := _, guard := none }) (v := ?_) rfl (by kernel_rfl) (by kernel_rfl) (by kernel_rfl) (fun _ _ _ h => h) (fun _ _ => Iff.rfl) hC (Or.inl ⟨by rfl, ?_⟩) HY3.out.rb (fun hC hS => ?_)
                  rotate_left
                  · intro W9 hSw; skip; go_simp; try (with_reducible rfl)
                  try simp only [Act.put, List.setIfInBounds_toArray, List.set_cons_zero, List.set_cons_succ]
                  refine wpAnyL_ready (rs := [27]) (by kernel_rfl) (by simp) hC ?_
                  refine AllReadyL.cons (o := { dst := none, op := .store 35 (.tmp 6) (.tmp 120), type := _, pos := _, after := _, guard := none }) rfl (fun K9 hK => ?_) ?_
                  · skip
                    have y0 : v3.cell? ⟨w.heap.size + 2, 0, none⟩ = some (.slice none 0 0) := (cell_of_row _ _ 0 _ _ _ HY3.out.qb).trans rfl
                    have y1 : v3.cell? ⟨w.heap.size + 2, 1, none⟩ = some (.slice none 0 0) := (cell_of_row _ _ 1 _ _ _ HY3.out.qb).trans rfl
                    have y2 : v3.cell? ⟨w.heap.size + 2, 2, none⟩ = some (.int .i64 0) := (cell_of_row _ _ 2 _ _ _ HY3.out.qb).trans rfl
                    have y3 : v3.cell? ⟨w.heap.size + 2, 3, none⟩ = some (.bool false) := (cell_of_row _ _ 3 _ _ _ HY3.out.qb).trans rfl
                    have y4 : v3.cell? ⟨w.heap.size + 2, 4, none⟩ = some (.int .i64 0) := (cell_of_row _ _ 4 _ _ _ HY3.out.qb).trans rfl
                    have f0 : v3.frozen? ⟨w.heap.size + 2, 0, none⟩ = false := frozen_of_row _ _ _ _ _ HY3.out.qb
                    have f1 : v3.frozen? ⟨w.heap.size + 2, 1, none⟩ = false := frozen_of_row _ _ _ _ _ HY3.out.qb
                    have f2 : v3.frozen? ⟨w.heap.size + 2, 2, none⟩ = false := frozen_of_row _ _ _ _ _ HY3.out.qb
                    have f3 : v3.frozen? ⟨w.heap.size + 2, 3, none⟩ = false := frozen_of_row _ _ _ _ _ HY3.out.qb
                    have f4 : v3.frozen? ⟨w.heap.size + 2, 4, none⟩ = false := frozen_of_row _ _ _ _ _ HY3.out.qb
                    go_simp
                    obtain ⟨v9, hv9⟩ : ∃ v9, v9 = (((((v3.setCell ⟨w.heap.size + 2, 0, none⟩ (.slice A9 n9 c9)).setCell ⟨w.heap.size + 2, 1, none⟩ (.slice B9 m9 k9)).setCell ⟨w.heap.size + 2, 2, none⟩ (.int .i64 d'.ar)).setCell ⟨w.heap.size + 2, 3, none⟩ (.bool d'.go)).setCell ⟨w.heap.size + 2, 4, none⟩ (.int .i64 d'.op)) := ⟨_, rfl⟩
                    have HG := Lib.hid (HY3.out.done v9 hv9)
                    rw [← hv9]
                    clear y0 y1 y2 y3 y4 f0 f1 f2 f3 f4 hv9
                    refine hK _ _ HG.out.2.2.2.2.2 (fun hC => ?_)
                    clear hK K9
                    try simp only [Act.put, List.setIfInBounds_toArray, List.set_cons_zero, List.set_cons_succ]
                    refine wpAnyL_take (i := 28) (oi := { dst := some 7, op := .assign (.tmp 146), type := _, pos := _, after := _, guard := none }) (v := ?_) rfl (by kernel_rfl) (by kernel_rfl) (by kernel_rfl) (fun _ _ _ h => h) (fun _ _ => Iff.rfl) hC (Or.inl ⟨by rfl, ?_⟩) HG.out.2.2.2.2.2 (fun hC hS => ?_)
                    rotate_left
                    · intro W9 hSw; skip; go_simp; try (with_reducible rfl)
                    try simp only [Act.put, List.setIfInBounds_toArray, List.set_cons_zero, List.set_cons_succ]
                    refine wpAnyL_done (by kernel_rfl) ?_ _
                    go_wp2_with fail
                    refine bodyPost_ret (results_ctY rfl _ _ (w.heap.size + 2) #[.slice A9 n9 c9, .slice B9 m9 k9, .int .i64 d'.ar, .bool d'.go, .int .i64 d'.op] rfl (run_loadVar_row _ (w.heap.size + 2) 35 35 _ (0, 0) _ HG.out.2.2.2.2.1 Try.underlying35 rfl (by kernel_rfl))) rfl ?_
                    exact ⟨_, _, _, _, _, _, rfl, HG.out.1, HG.out.2.1, HG.out.2.2.1, HG.out.2.2.2.1⟩
                  exact AllReadyL.nil
                exact AllReadyL.nil
              exact AllReadyL.nil
            exact AllReadyL.nil
          exact AllReadyL.nil
        exact AllReadyL.nil
      exact AllReadyL.nil
    exact AllReadyL.nil
  exact AllReadyL.nil
end Go.Proofs.Ytiagbadnmkeokaa

namespace Go.Proofs.Ytiagbadnmkeokaa
open Go.RowKit Vi

set_option maxRecDepth 100000 in
set_option maxHeartbeats 4000000 in
theorem does5 (n0 : Nat) (w0 : World) (D : Nat) (d : Ds) (k : Nat) (A : Option Addr) (n c : Nat) (A2 : Option Addr) (n2 c2 : Nat) (a : Ac) (w : World) (h : DW n0 w0 D d w) (o : DsOk k d) (hk : k ≤ 1000) (h1 : RdA D stC 1 w A n d.S) (h2 : RdA D wrC 2 w A2 n2 d.C) (hs : a.t.size ≤ 140737488351232) (hka : RdA D inC 1 w a.ka a.kn a.ks) (hkw : ∀ x ∈ a.ks, (Lit.int .i64 x).wf = true) (hkm : a.kn ≤ maxLen) (hkd : a.kd = 5) :
    Calls Try.prog 13 #[.pointer (some ⟨D, 0, none⟩), rdv A n c A2 n2 c2 d.ar d.go d.op, acV a] w (DoesP n0 w0 D (d.crash a.ks) w) := by
  have HKA := Lib.hid hka
  have HKM := Lib.hid hkm
  clear hka hkm
  obtain ⟨d', hd'⟩ : ∃ d', d' = d.crash a.ks := ⟨_, rfl⟩
  have HOK := Lib.hid h.dk.at'
  have HQ := Lib.hid (fun (W : World) (A : Option Addr) (n c : Nat) (A2 : Option Addr) (n2 c2 : Nat) (q : RV (fun b => ¬ InD D W b) d A n A2 n2 W) (hP : ∀ b, W.heap.size ≤ b → ¬ InD D W b) => fun (r : RdX inC 1 W a.ka a.kn a.ks) => qcrash (c := c) (c2 := c2) q o hk hP HOK.out a.ka a.kn a.kc a.ks r HKM.out)
  have HP := Lib.hid (fun (W : World) (q : DW n0 w0 D d W) => fun (r : RdX inC 1 W a.ka a.kn a.ks) => pcrash q o hk a.ka a.kn a.kc a.ks r hkw HKM.out)
  rw [← hd'] at HQ HP
  rw [← hd']
  clear hd' HOK
  obtain ⟨kd, at0, nn, t, rw1, ka, kn, kc, ks⟩ := a
  dsimp only at HQ HP hkd HKA HKM
  subst hkd
  have HZ0 := Lib.hid (bz_start (a := ⟨5, at0, nn, t, rw1, ka, kn, kc, ks⟩) (c := c) (c2 := c2) h h1 h2)
  obtain ⟨v, hv⟩ : ∃ v, v = (((w.alloc (.cells #[.slice A n c, .slice A2 n2 c2, .int .i64 d.ar, .bool d.go, .int .i64 d.op] 35 (0, 0))).alloc (.cells #[.int .i64 5, .int .i64 at0, .int .i64 nn, .string t, .bool rw1, .slice ka kn kc] 39 (0, 0))).alloc (.cells #[.slice none 0 0, .slice none 0 0, .int .i64 0, .bool false, .int .i64 0] 35 (0, 0))) := ⟨_, rfl⟩
  have HV := Lib.hid hv
  have HZ : Hid (Bz n0 w0 w D w.heap.size d d A n c A2 n2 c2 ⟨5, at0, nn, t, rw1, ka, kn, kc, ks⟩ v) := Lib.hid (by rw [hv]; exact HZ0.out)
  clear HZ0 hv h h1 h2
  go_enter Try.func13, Try.ntmps13
  go_upto_region 1 with (fail)
  rw [← HV.out]
  clear HV
  have hk0 : v.cell? ⟨w.heap.size + 1, 0, none⟩ = some (.int .i64 5) := (cell_of_row _ _ 0 _ _ _ HZ.out.ab).trans rfl
  go_upto_region 21 with (fail)
  clear hk0
  refine wp_region_L_drew (S := SB 8 w.heap.size (rdC A n c A2 n2 c2 d) #[.int .i64 5, .int .i64 at0, .int .i64 nn, .string t, .bool rw1, .slice ka kn kc]) (by kernel_rfl) ⟨HZ.out.ab, fun _ => HZ.out.rb⟩ (fun hS hC => ?_)
  have HZ := Lib.hid HZ.out.drew
  generalize v.drew = U at *
  refine wpAnyL_take (i := 0) (oi := { dst := some 89, op := .load 35 (.tmp 4), type := _, pos := _, after := _, guard := none }) (v := ?_) rfl (by kernel_rfl) (by kernel_rfl) (by kernel_rfl) (fun _ _ _ h => h) (SB.set (by decide)) hC (Or.inl ⟨by rfl, ?_⟩) hS (fun hC hS => ?_)
  rotate_left
  · intro W9 hSw; have q0 := (cell_of_row _ _ 0 _ _ _ (SB.rOf hSw 12 (by kernel_rfl))).trans rfl; have q1 := (cell_of_row _ _ 1 _ _ _ (SB.rOf hSw 12 (by kernel_rfl))).trans rfl; have q2 := (cell_of_row _ _ 2 _ _ _ (SB.rOf hSw 12 (by kernel_rfl))).trans rfl; have q3 := (cell_of_row _ _ 3 _ _ _ (SB.rOf hSw 12 (by kernel_rfl))).trans rfl; have q4 := (cell_of_row _ _ 4 _ _ _ (SB.rOf hSw 12 (by kernel_rfl))).trans rfl; go_simp; try (with_reducible rfl)
  try simp only [Act.put, List.setIfInBounds_toArray, List.set_cons_zero, List.set_cons_succ]
  refine wpAnyL_take (i := 1) (oi := { dst := some 90, op := .fieldAddr 39 (.tmp 5) 5, type := _, pos := _, after := _, guard := none }) (v := ?_) rfl (by kernel_rfl) (by kernel_rfl) (by kernel_rfl) (fun _ _ _ h => h) (SB.set (by decide)) hC (Or.inl ⟨by rfl, ?_⟩) hS (fun hC hS => ?_)
  rotate_left
  · intro W9 hSw; skip; go_simp; try (with_reducible rfl)
  try simp only [Act.put, List.setIfInBounds_toArray, List.set_cons_zero, List.set_cons_succ]
  refine wpAnyL_take (i := 2) (oi := { dst := some 91, op := .load 37 (.tmp 90), type := _, pos := _, after := _, guard := none }) (v := ?_) rfl (by kernel_rfl) (by kernel_rfl) (by kernel_rfl) (fun _ _ _ h => h) (SB.set (by decide)) hC (Or.inl ⟨by rfl, ?_⟩) hS (fun hC hS => ?_)
  rotate_left
  · intro W9 hSw; have q5 := (cell_of_row _ _ 5 _ _ _ (SB.aOf hSw)).trans rfl; go_simp; try (with_reducible rfl)
  try simp only [Act.put, List.setIfInBounds_toArray, List.set_cons_zero, List.set_cons_succ]
  refine wpAnyL_take (i := 4) (oi := { dst := some 93, op := .move (.tmp 0), type := _, pos := _, after := _, guard := none }) (v := ?_) rfl (by kernel_rfl) (by kernel_rfl) (by kernel_rfl) (fun _ _ _ h => h) (SB.set (by decide)) hC (Or.inl ⟨by rfl, ?_⟩) hS (fun hC hS => ?_)
  rotate_left
  · intro W9 hSw; skip; go_simp; try (with_reducible rfl)
  try simp only [Act.put, List.setIfInBounds_toArray, List.set_cons_zero, List.set_cons_succ]
  refine wpAnyL_take (i := 5) (oi := { dst := some 94, op := .fieldAddr 39 (.tmp 5) 5, type := _, pos := _, after := _, guard := none }) (v := ?_) rfl (by kernel_rfl) (by kernel_rfl) (by kernel_rfl) (fun _ _ _ h => h) (SB.set (by decide)) hC (Or.inl ⟨by rfl, ?_⟩) hS (fun hC hS => ?_)
  rotate_left
  · intro W9 hSw; skip; go_simp; try (with_reducible rfl)
  try simp only [Act.put, List.setIfInBounds_toArray, List.set_cons_zero, List.set_cons_succ]
  refine wpAnyL_take (i := 6) (oi := { dst := some 95, op := .load 37 (.tmp 94), type := _, pos := _, after := _, guard := none }) (v := ?_) rfl (by kernel_rfl) (by kernel_rfl) (by kernel_rfl) (fun _ _ _ h => h) (SB.set (by decide)) hC (Or.inl ⟨by rfl, ?_⟩) hS (fun hC hS => ?_)
  rotate_left
  · intro W9 hSw; have q5 := (cell_of_row _ _ 5 _ _ _ (SB.aOf hSw)).trans rfl; go_simp; try (with_reducible rfl)
  try simp only [Act.put, List.setIfInBounds_toArray, List.set_cons_zero, List.set_cons_succ]
  refine wpAnyL_ready (rs := [3]) (by kernel_rfl) (by simp) hC ?_
  refine AllReadyL.cons (o := { dst := some 92, op := .call { callee := .value (.func 49), args := #[.tmp 89, .tmp 91], argTypes := #[35, 37] }, type := _, pos := _, after := _, guard := none }) rfl (fun K9 hK => ?_) ?_
  · skip
    go_simp
    refine (HQ.out _ A n c A2 n2 c2 HZ.out.rv HZ.out.nw (HKA.out.kd HZ.out.kd).1).mono ?_
    rintro e w5 ⟨vv, rfl, ⟨A9, n9, c9, B9, m9, k9, rfl, hs5, hc5⟩, hb5⟩
    have HZ5 := Lib.hid (HZ.out.kept hb5)
    have HS5 := Lib.hid (hs5.rdA hb5 HZ.out.dw.lt)
    have HC5 := Lib.hid (hc5.rdA hb5 HZ.out.dw.lt)
    clear hs5 hc5 hb5 HZ HQ
    refine hK _ _ ⟨HZ5.out.ab, fun _ => HZ5.out.rb⟩ (fun hC => ?_)
    clear hK K9
    try simp only [Act.put, List.setIfInBounds_toArray, List.set_cons_zero, List.set_cons_succ]
    refine wpAnyL_ready (rs := [7]) (by kernel_rfl) (by simp) hC ?_
    refine AllReadyL.cons (o := { dst := some 96, op := .call { callee := .value (.func 22), args := #[.tmp 93, .tmp 95], argTypes := #[25, 37] }, type := _, pos := _, after := _, guard := none }) rfl (fun K9 hK => ?_) ?_
    · skip
      go_simp
      refine (HP.out _ HZ5.out.dw (HKA.out.kd HZ5.out.kd).1).mono ?_
      rintro e w3 ⟨rfl, hd3, hk3⟩
      have HZ3 := Lib.hid (HZ5.out.prog hk3 hd3)
      have HS5 := Lib.hid (HS5.out.kd hk3)
      have HC5 := Lib.hid (HC5.out.kd hk3)
      clear hd3 hk3 HZ5 HP
      refine hK _ _ ⟨HZ3.out.ab, fun _ => HZ3.out.rb⟩ (fun hC => ?_)
      clear hK K9
      try simp only [Act.put, List.setIfInBounds_toArray, List.set_cons_zero, List.set_cons_succ]
      refine wpAnyL_ready (rs := [8]) (by kernel_rfl) (by simp) hC ?_
      refine AllReadyL.cons (o := { dst := none, op := .store 35 (.tmp 4) (.tmp 92), type := _, pos := _, after := _, guard := none }) rfl (fun K9 hK => ?_) ?_
      · skip
        have y0 : (w3).cell? ⟨w.heap.size, 0, none⟩ = some (.slice A n c) := (cell_of_row _ _ 0 _ _ _ HZ3.out.rb).trans rfl
        have y1 : (w3).cell? ⟨w.heap.size, 1, none⟩ = some (.slice A2 n2 c2) := (cell_of_row _ _ 1 _ _ _ HZ3.out.rb).trans rfl
        have y2 : (w3).cell? ⟨w.heap.size, 2, none⟩ = some (.int .i64 d.ar) := (cell_of_row _ _ 2 _ _ _ HZ3.out.rb).trans rfl
        have y3 : (w3).cell? ⟨w.heap.size, 3, none⟩ = some (.bool d.go) := (cell_of_row _ _ 3 _ _ _ HZ3.out.rb).trans rfl
        have y4 : (w3).cell? ⟨w.heap.size, 4, none⟩ = some (.int .i64 d.op) := (cell_of_row _ _ 4 _ _ _ HZ3.out.rb).trans rfl
        have f0 : (w3).frozen? ⟨w.heap.size, 0, none⟩ = false := frozen_of_row _ _ _ _ _ HZ3.out.rb
        have f1 : (w3).frozen? ⟨w.heap.size, 1, none⟩ = false := frozen_of_row _ _ _ _ _ HZ3.out.rb
        have f2 : (w3).frozen? ⟨w.heap.size, 2, none⟩ = false := frozen_of_row _ _ _ _ _ HZ3.out.rb
        have f3 : (w3).frozen? ⟨w.heap.size, 3, none⟩ = false := frozen_of_row _ _ _ _ _ HZ3.out.rb
        have f4 : (w3).frozen? ⟨w.heap.size, 4, none⟩ = false := frozen_of_row _ _ _ _ _ HZ3.out.rb
        go_simp
        have HZ6 := Lib.hid (HZ3.out.stored (m := n9) (mc := c9) (m2 := m9) (k2 := k9) HS5.out HC5.out)
        clear y0 y1 y2 y3 y4 f0 f1 f2 f3 f4 HS5 HC5 HZ3
        generalize (((((w3.setCell ⟨w.heap.size, 0, none⟩ (.slice A9 n9 c9)).setCell ⟨w.heap.size, 1, none⟩ (.slice B9 m9 k9)).setCell ⟨w.heap.size, 2, none⟩ (.int .i64 d'.ar)).setCell ⟨w.heap.size, 3, none⟩ (.bool d'.go)).setCell ⟨w.heap.size, 4, none⟩ (.int .i64 d'.op)) = w6 at *
        refine hK _ _ ⟨HZ6.out.ab, fun q => absurd q (by decide)⟩ (fun hC => ?_)
        clear hK K9
        try simp only [Act.put, List.setIfInBounds_toArray, List.set_cons_zero, List.set_cons_succ]
        refine wpAnyL_take (i := 9) (oi := { dst := some 8, op := .assign (.tmp 96), type := _, pos := _, after := _, guard := none }) (v := ?_) rfl (by kernel_rfl) (by kernel_rfl) (by kernel_rfl) (fun _ _ _ h => h) (SB.set (by decide)) hC (Or.inl ⟨by rfl, ?_⟩) ⟨HZ6.out.ab, fun q => absurd q (by decide)⟩ (fun hC hS => ?_)
        rotate_left
        · intro W9 hSw; skip; go_simp; try (with_reducible rfl)
        try simp only [Act.put, List.setIfInBounds_toArray, List.set_cons_zero, List.set_cons_succ]
        refine wpAnyL_done (by kernel_rfl) ?_ _
        clear hS hC
        go_upto_region 27 with (fail)
        have HY0 := Lib.hid HZ6.out.drew
        refine wp_region_L_drew (S := fun _ W => W.heap[w.heap.size]? = some (.cells (rdC A9 n9 c9 B9 m9 k9 d') 35 (0, 0))) (by kernel_rfl) HY0.out.rb (fun hS hC => ?_)
        generalize w6.drew = v0 at *
        refine wpAnyL_take (i := 0) (oi := { dst := some 120, op := .load 35 (.tmp 4), type := _, pos := _, after := _, guard := none }) (v := ?_) rfl (by kernel_rfl) (by kernel_rfl) (by kernel_rfl) (fun _ _ _ h => h) (fun _ _ => Iff.rfl) hC (Or.inl ⟨by rfl, ?_⟩) hS (fun hC hS => ?_)
        rotate_left
        · intro W9 hSw; have q0 := (cell_of_row _ _ 0 _ _ _ hSw.choose_spec.2.2).trans rfl; have q1 := (cell_of_row _ _ 1 _ _ _ hSw.choose_spec.2.2).trans rfl; have q2 := (cell_of_row _ _ 2 _ _ _ hSw.choose_spec.2.2).trans rfl; have q3 := (cell_of_row _ _ 3 _ _ _ hSw.choose_spec.2.2).trans rfl; have q4 := (cell_of_row _ _ 4 _ _ _ hSw.choose_spec.2.2).trans rfl; go_simp; try (with_reducible rfl)
        try simp only [Act.put, List.setIfInBounds_toArray, List.set_cons_zero, List.set_cons_succ]
        refine wpAnyL_take (i := 1) (oi := { dst := some 121, op := .move (.tmp 8), type := _, pos := _, after := _, guard := none }) (v := ?_) rfl (by kernel_rfl) (by kernel_rfl) (by kernel_rfl) (fun _ _ _ h => h) (fun _ _ => Iff.rfl) hC (Or.inl ⟨by rfl, ?_⟩) hS (fun hC hS => ?_)
        rotate_left
        · intro W9 hSw; skip; go_simp; try (with_reducible rfl)
        try simp only [Act.put, List.setIfInBounds_toArray, List.set_cons_zero, List.set_cons_succ]
        refine wpAnyL_take (i := 2) (oi := { dst := some 122, op := .move (.tmp 9), type := _, pos := _, after := _, guard := none }) (v := ?_) rfl (by kernel_rfl) (by kernel_rfl) (by kernel_rfl) (fun _ _ _ h => h) (fun _ _ => Iff.rfl) hC (Or.inl ⟨by rfl, ?_⟩) hS (fun hC hS => ?_)
        rotate_left
        · intro W9 hSw; skip; go_simp; try (with_reducible rfl)
        try simp only [Act.put, List.setIfInBounds_toArray, List.set_cons_zero, List.set_cons_succ]
        refine wpAnyL_take (i := 3) (oi := { dst := some 123, op := .binOp .eql 3 (.tmp 121) (.tmp 122) 3, type := _, pos := _, after := _, guard := none }) (v := ?_) rfl (by kernel_rfl) (by kernel_rfl) (by kernel_rfl) (fun _ _ _ h => h) (fun _ _ => Iff.rfl) hC (Or.inl ⟨by rfl, ?_⟩) hS (fun hC hS => ?_)
        rotate_left
        · intro W9 hSw; skip; go_simp; try (with_reducible rfl)
        try simp only [Act.put, List.setIfInBounds_toArray, List.set_cons_zero, List.set_cons_succ]
        refine wpAnyL_take (i := 4) (oi := { dst := some 124, op := .move (.tmp 123), type := _, pos := _, after := _, guard := none }) (v := ?_) rfl (by kernel_rfl) (by kernel_rfl) (by kernel_rfl) (fun _ _ _ h => h) (fun _ _ => Iff.rfl) hC (Or.inl ⟨by rfl, ?_⟩) hS (fun hC hS => ?_)
        rotate_left
        · intro W9 hSw; skip; go_simp; try (with_reducible rfl)
        try simp only [Act.put, List.setIfInBounds_toArray, List.set_cons_zero, List.set_cons_succ]
        refine wpAnyL_take (i := 5) (oi := { dst := some 125, op := .move (.tmp 0), type := _, pos := _, after := _, guard := some (4, true) }) (v := ?_) rfl (by kernel_rfl) (by kernel_rfl) (by kernel_rfl) (fun _ _ _ h => h) (fun _ _ => Iff.rfl) hC (Or.inl ⟨by rfl, ?_⟩) hS (fun hC hS => ?_)
        rotate_left
        · intro W9 hSw; skip; go_simp; try (with_reducible rfl)
        try simp only [Act.put, List.setIfInBounds_toArray, List.set_cons_zero, List.set_cons_succ]
        refine wpAnyL_take (i := 7) (oi := { dst := some 127, op := .fieldAddr 35 (.tmp 4) 2, type := _, pos := _, after := _, guard := some (4, true) }) (v := ?_) rfl (by kernel_rfl) (by kernel_rfl) (by kernel_rfl) (fun _ _ _ h => h) (fun _ _ => Iff.rfl) hC (Or.inl ⟨by rfl, ?_⟩) hS (fun hC hS => ?_)
        rotate_left
        · intro W9 hSw; skip; go_simp; try (with_reducible rfl)
        try simp only [Act.put, List.setIfInBounds_toArray, List.set_cons_zero, List.set_cons_succ]
        refine wpAnyL_take (i := 8) (oi := { dst := some 128, op := .load 4 (.tmp 127), type := _, pos := _, after := _, guard := some (4, true) }) (v := ?_) rfl (by kernel_rfl) (by kernel_rfl) (by kernel_rfl) (fun _ _ _ h => h) (fun _ _ => Iff.rfl) hC (Or.inl ⟨by rfl, ?_⟩) hS (fun hC hS => ?_)
        rotate_left
        · intro W9 hSw; have q3 := (cell_of_row _ _ 3 _ _ _ hSw.choose_spec.2.2).trans rfl; go_simp; try (with_reducible rfl)
        try simp only [Act.put, List.setIfInBounds_toArray, List.set_cons_zero, List.set_cons_succ]
        refine wpAnyL_ready (rs := [6]) (by kernel_rfl) (by simp) hC ?_
        refine AllReadyL.cons (o := { dst := some 126, op := .call { callee := .value (.func 23), args := #[.tmp 125], argTypes := #[25] }, type := _, pos := _, after := _, guard := some (4, true) }) rfl (fun K9 hK => ?_) ?_
        · skip
          go_simp
          refine ((dk_tail HY0.out.dw.dk HY0.out.s.1.1).1 _ (Below.refl _ _)).mono ?_
          rintro e v1 ⟨rfl, hb8⟩
          have HY1 := Lib.hid (HY0.out.kept hb8)
          clear hb8 HY0
          refine hK _ _ HY1.out.rb (fun hC => ?_)
          clear hK K9
          try simp only [Act.put, List.setIfInBounds_toArray, List.set_cons_zero, List.set_cons_succ]
          refine wpAnyL_take (i := 9) (oi := { dst := some 129, op := .binOp .eql 4 (.tmp 126) (.tmp 128) 4, type := _, pos := _, after := _, guard := some (4, true) }) (v := ?_) rfl (by kernel_rfl) (by kernel_rfl) (by kernel_rfl) (fun _ _ _ h => h) (fun _ _ => Iff.rfl) hC (Or.inl ⟨by rfl, ?_⟩) HY1.out.rb (fun hC hS => ?_)
          rotate_left
          · intro W9 hSw; skip; go_simp; try (with_reducible rfl)
          try simp only [Act.put, List.setIfInBounds_toArray, List.set_cons_zero, List.set_cons_succ]
          refine wpAnyL_take (i := 10) (oi := { dst := some 130, op := .pick (.tmp 124) (.tmp 129) (.const (.bool false)), type := _, pos := _, after := _, guard := none }) (v := ?_) rfl (by kernel_rfl) (by kernel_rfl) (by kernel_rfl) (fun _ _ _ h => h) (fun _ _ => Iff.rfl) hC (Or.inl ⟨by rfl, ?_⟩) HY1.out.rb (fun hC hS => ?_)
          rotate_left
          · intro W9 hSw; skip; go_simp; try (with_reducible rfl)
          try simp only [Act.put, List.setIfInBounds_toArray, List.set_cons_zero, List.set_cons_succ]
          refine wpAnyL_take (i := 11) (oi := { dst := some 131, op := .move (.tmp 130), type := _, pos := _, after := _, guard := none }) (v := ?_) rfl (by kernel_rfl) (by kernel_rfl) (by kernel_rfl) (fun _ _ _ h => h) (fun _ _ => Iff.rfl) hC (Or.inl ⟨by rfl, ?_⟩) HY1.out.rb (fun hC hS => ?_)
          rotate_left
          · intro W9 hSw; skip; go_simp; try (with_reducible rfl)
          try simp only [Act.put, List.setIfInBounds_toArray, List.set_cons_zero, List.set_cons_succ]
          refine wpAnyL_take (i := 12) (oi := { dst := some 132, op := .move (.tmp 0), type := _, pos := _, after := _, guard := some (11, true) }) (v := ?_) rfl (by kernel_rfl) (by kernel_rfl) (by kernel_rfl) (fun _ _ _ h => h) (fun _ _ => Iff.rfl) hC (Or.inl ⟨by rfl, ?_⟩) HY1.out.rb (fun hC hS => ?_)
          rotate_left
          · intro W9 hSw; skip; go_simp; try (with_reducible rfl)
          try simp only [Act.put, List.setIfInBounds_toArray, List.set_cons_zero, List.set_cons_succ]
          refine wpAnyL_take (i := 14) (oi := { dst := some 134, op := .fieldAddr 35 (.tmp 4) 3, type := _, pos := _, after := _, guard := some (11, true) }) (v := ?_) rfl (by kernel_rfl) (by kernel_rfl) (by kernel_rfl) (fun _ _ _ h => h) (fun _ _ => Iff.rfl) hC (Or.inl ⟨by rfl, ?_⟩) HY1.out.rb (fun hC hS => ?_)
          rotate_left
          · intro W9 hSw; skip; go_simp; try (with_reducible rfl)
          try simp only [Act.put, List.setIfInBounds_toArray, List.set_cons_zero, List.set_cons_succ]
          refine wpAnyL_take (i := 15) (oi := { dst := some 135, op := .load 3 (.tmp 134), type := _, pos := _, after := _, guard := some (11, true) }) (v := ?_) rfl (by kernel_rfl) (by kernel_rfl) (by kernel_rfl) (fun _ _ _ h => h) (fun _ _ => Iff.rfl) hC (Or.inl ⟨by rfl, ?_⟩) HY1.out.rb (fun hC hS => ?_)
          rotate_left
          · intro W9 hSw; have q4 := (cell_of_row _ _ 4 _ _ _ hSw.choose_spec.2.2).trans rfl; go_simp; try (with_reducible rfl)
          try simp only [Act.put, List.setIfInBounds_toArray, List.set_cons_zero, List.set_cons_succ]
          refine wpAnyL_ready (rs := [13]) (by kernel_rfl) (by simp) hC ?_
          refine AllReadyL.cons (o := { dst := some 133, op := .call { callee := .value (.func 28), args := #[.tmp 132], argTypes := #[25] }, type := _, pos := _, after := _, guard := some (11, true) }) rfl (fun K9 hK => ?_) ?_
          · skip
            go_simp
            refine ((dk_tail HY1.out.dw.dk HY1.out.s.1.1).2.1 _ (Below.refl _ _)).mono ?_
            rintro e v2 ⟨rfl, hb8⟩
            have HY2 := Lib.hid (HY1.out.kept hb8)
            clear hb8 HY1
            refine hK _ _ HY2.out.rb (fun hC => ?_)
            clear hK K9
            try simp only [Act.put, List.setIfInBounds_toArray, List.set_cons_zero, List.set_cons_succ]
            refine wpAnyL_take (i := 16) (oi := { dst := some 136, op := .binOp .eql 3 (.tmp 133) (.tmp 135) 3, type := _, pos := _, after := _, guard := some (11, true) }) (v := ?_) rfl (by kernel_rfl) (by kernel_rfl) (by kernel_rfl) (fun _ _ _ h => h) (fun _ _ => Iff.rfl) hC (Or.inl ⟨by rfl, ?_⟩) HY2.out.rb (fun hC hS => ?_)
            rotate_left
            · intro W9 hSw; skip; go_simp; try (with_reducible rfl)
            try simp only [Act.put, List.setIfInBounds_toArray, List.set_cons_zero, List.set_cons_succ]
            refine wpAnyL_take (i := 17) (oi := { dst := some 137, op := .pick (.tmp 131) (.tmp 136) (.const (.bool false)), type := _, pos := _, after := _, guard := none }) (v := ?_) rfl (by kernel_rfl) (by kernel_rfl) (by kernel_rfl) (fun _ _ _ h => h) (fun _ _ => Iff.rfl) hC (Or.inl ⟨by rfl, ?_⟩) HY2.out.rb (fun hC hS => ?_)
            rotate_left
            · intro W9 hSw; skip; go_simp; try (with_reducible rfl)
            try simp only [Act.put, List.setIfInBounds_toArray, List.set_cons_zero, List.set_cons_succ]
            refine wpAnyL_take (i := 18) (oi := { dst := some 138, op := .move (.tmp 137), type := _, pos := _, after := _, guard := none }) (v := ?_) rfl (by kernel_rfl) (by kernel_rfl) (by kernel_rfl) (fun _ _ _ h => h) (fun _ _ => Iff.rfl) hC (Or.inl ⟨by rfl, ?_⟩) HY2.out.rb (fun hC hS => ?_)
            rotate_left
            · intro W9 hSw; skip; go_simp; try (with_reducible rfl)
            try simp only [Act.put, List.setIfInBounds_toArray, List.set_cons_zero, List.set_cons_succ]
            refine wpAnyL_take (i := 19) (oi := { dst := some 139, op := .move (.tmp 0), type := _, pos := _, after := _, guard := some (18, true) }) (v := ?_) rfl (by kernel_rfl) (by kernel_rfl) (by kernel_rfl) (fun _ _ _ h => h) (fun _ _ => Iff.rfl) hC (Or.inl ⟨by rfl, ?_⟩) HY2.out.rb (fun hC hS => ?_)
            rotate_left
            · intro W9 hSw; skip; go_simp; try (with_reducible rfl)
            try simp only [Act.put, List.setIfInBounds_toArray, List.set_cons_zero, List.set_cons_succ]
            refine wpAnyL_take (i := 21) (oi := { dst := some 141, op := .fieldAddr 35 (.tmp 4) 0, type := _, pos := _, after := _, guard := some (18, true) }) (v := ?_) rfl (by kernel_rfl) (by kernel_rfl) (by kernel_rfl) (fun _ _ _ h => h) (fun _ _ => Iff.rfl) hC (Or.inl ⟨by rfl, ?_⟩) HY2.out.rb (fun hC hS => ?_)
            rotate_left
            · intro W9 hSw; skip; go_simp; try (with_reducible rfl)
            try simp only [Act.put, List.setIfInBounds_toArray, List.set_cons_zero, List.set_cons_succ]
            refine wpAnyL_take (i := 22) (oi := { dst := some 142, op := .fieldAddr 32 (.tmp 141) 0, type := _, pos := _, after := _, guard := some (18, true) }) (v := ?_) rfl (by kernel_rfl) (by kernel_rfl) (by kernel_rfl) (fun _ _ _ h => h) (fun _ _ => Iff.rfl) hC (Or.inl ⟨by rfl, ?_⟩) HY2.out.rb (fun hC hS => ?_)
            rotate_left
            · intro W9 hSw; skip; go_simp; try (with_reducible rfl)
            try simp only [Act.put, List.setIfInBounds_toArray, List.set_cons_zero, List.set_cons_succ]
            refine wpAnyL_take (i := 23) (oi := { dst := some 143, op := .load 29 (.tmp 142), type := _, pos := _, after := _, guard := some (18, true) }) (v := ?_) rfl (by kernel_rfl) (by kernel_rfl) (by kernel_rfl) (fun _ _ _ h => h) (fun _ _ => Iff.rfl) hC (Or.inl ⟨by rfl, ?_⟩) HY2.out.rb (fun hC hS => ?_)
            rotate_left
            · intro W9 hSw; have q0 := (cell_of_row _ _ 0 _ _ _ hSw.choose_spec.2.2).trans rfl; go_simp; try (with_reducible rfl)
            try simp only [Act.put, List.setIfInBounds_toArray, List.set_cons_zero, List.set_cons_succ]
            refine wpAnyL_take (i := 24) (oi := { dst := some 144, op := .call { callee := .builtin .len, args := #[.tmp 143], argTypes := #[29] }, type := _, pos := _, after := _, guard := some (18, true) }) (v := ?_) rfl (by kernel_rfl) (by kernel_rfl) (by kernel_rfl) (fun _ _ _ h => h) (fun _ _ => Iff.rfl) hC (Or.inl ⟨by rfl, ?_⟩) HY2.out.rb (fun hC hS => ?_)
            rotate_left
            · intro W9 hSw; skip; go_simp; try (with_reducible rfl)
            try simp only [Act.put, List.setIfInBounds_toArray, List.set_cons_zero, List.set_cons_succ]
            refine wpAnyL_ready (rs := [20]) (by kernel_rfl) (by simp) hC ?_
            refine AllReadyL.cons (o := { dst := some 140, op := .call { callee := .value (.func 27), args := #[.tmp 139], argTypes := #[25] }, type := _, pos := _, after := _, guard := some (18, true) }) rfl (fun K9 hK => ?_) ?_
            · skip
              go_simp
              refine ((dk_tail HY2.out.dw.dk HY2.out.s.1.1).2.2 _ (Below.refl _ _)).mono ?_
              rintro e v3 ⟨rfl, hb8⟩
              have HY3 := Lib.hid (HY2.out.kept hb8)
              clear hb8 HY2
              refine hK _ _ HY3.out.rb (fun hC => ?_)
              clear hK K9
              try simp only [Act.put, List.setIfInBounds_toArray, List.set_cons_zero, List.set_cons_succ]
              refine wpAnyL_take (i := 25) (oi := { dst := some 145, op := .binOp .eql 3 (.tmp 140) (.tmp 144) 3, type := _, pos := _, after := _, guard := some (18, true) }) (v := ?_) rfl (by kernel_rfl) (by kernel_rfl) (by kernel_rfl) (fun _ _ _ h => h) (fun _ _ => Iff.rfl) hC (Or.inl ⟨by rfl, ?_⟩) HY3.out.rb (fun hC hS => ?_)
              rotate_left
              · intro W9 hSw; skip; go_simp; try (with_reducible rfl)
              try simp only [Act.put, List.setIfInBounds_toArray, List.set_cons_zero, List.set_cons_succ]
              refine wpAnyL_take (i := 26) (oi := { dst := some 146, op := .pick (.tmp 138) (.tmp 145) (.const (.bool false)), type := _, pos := _, after := _, guard := none }) (v := ?_) rfl (by kernel_rfl) (by kernel_rfl) (by kernel_rfl) (fun _ _ _ h => h) (fun _ _ => Iff.rfl) hC (Or.inl ⟨by rfl, ?_⟩) HY3.out.rb (fun hC hS => ?_)
              rotate_left
              · intro W9 hSw; skip; go_simp; try (with_reducible rfl)
              try simp only [Act.put, List.setIfInBounds_toArray, List.set_cons_zero, List.set_cons_succ]
              refine wpAnyL_ready (rs := [27]) (by kernel_rfl) (by simp) hC ?_
              refine AllReadyL.cons (o := { dst := none, op := .store 35 (.tmp 6) (.tmp 120), type := _, pos := _, after := _, guard := none }) rfl (fun K9 hK => ?_) ?_
              · skip
                have y0 : v3.cell? ⟨w.heap.size + 2, 0, none⟩ = some (.slice none 0 0) := (cell_of_row _ _ 0 _ _ _ HY3.out.qb).trans rfl
                have y1 : v3.cell? ⟨w.heap.size + 2, 1, none⟩ = some (.slice none 0 0) := (cell_of_row _ _ 1 _ _ _ HY3.out.qb).trans rfl
                have y2 : v3.cell? ⟨w.heap.size + 2, 2, none⟩ = some (.int .i64 0) := (cell_of_row _ _ 2 _ _ _ HY3.out.qb).trans rfl
                have y3 : v3.cell? ⟨w.heap.size + 2, 3, none⟩ = some (.bool false) := (cell_of_row _ _ 3 _ _ _ HY3.out.qb).trans rfl
                have y4 : v3.cell? ⟨w.heap.size + 2, 4, none⟩ = some (.int .i64 0) := (cell_of_row _ _ 4 _ _ _ HY3.out.qb).trans rfl
                have f0 : v3.frozen? ⟨w.heap.size + 2, 0, none⟩ = false := frozen_of_row _ _ _ _ _ HY3.out.qb
                have f1 : v3.frozen? ⟨w.heap.size + 2, 1, none⟩ = false := frozen_of_row _ _ _ _ _ HY3.out.qb
                have f2 : v3.frozen? ⟨w.heap.size + 2, 2, none⟩ = false := frozen_of_row _ _ _ _ _ HY3.out.qb
                have f3 : v3.frozen? ⟨w.heap.size + 2, 3, none⟩ = false := frozen_of_row _ _ _ _ _ HY3.out.qb
                have f4 : v3.frozen? ⟨w.heap.size + 2, 4, none⟩ = false := frozen_of_row _ _ _ _ _ HY3.out.qb
                go_simp
                obtain ⟨v9, hv9⟩ : ∃ v9, v9 = (((((v3.setCell ⟨w.heap.size + 2, 0, none⟩ (.slice A9 n9 c9)).setCell ⟨w.heap.size + 2, 1, none⟩ (.slice B9 m9 k9)).setCell ⟨w.heap.size + 2, 2, none⟩ (.int .i64 d'.ar)).setCell ⟨w.heap.size + 2, 3, none⟩ (.bool d'.go)).setCell ⟨w.heap.size + 2, 4, none⟩ (.int .i64 d'.op)) := ⟨_, rfl⟩
                have HG := Lib.hid (HY3.out.done v9 hv9)
                rw [← hv9]
                clear y0 y1 y2 y3 y4 f0 f1 f2 f3 f4 hv9
                refine hK _ _ HG.out.2.2.2.2.2 (fun hC => ?_)
                clear hK K9
                try simp only [Act.put, List.setIfInBounds_toArray, List.set_cons_zero, List.set_cons_succ]
                refine wpAnyL_take (i := 28) (oi := { dst := some 7, op := .assign (.tmp 146), type := _, pos := _, after := _, guard := none }) (v := ?_) rfl (by kernel_rfl) (by kernel_rfl) (by kernel_rfl) (fun _ _ _ h => h) (fun _ _ => Iff.rfl) hC (Or.inl ⟨by rfl, ?_⟩) HG.out.2.2.2.2.2 (fun hC hS => ?_)
                rotate_left
                · intro W9 hSw; skip; go_simp; try (with_reducible rfl)
                try simp only [Act.put, List.setIfInBounds_toArray, List.set_cons_zero, List.set_cons_succ]
                refine wpAnyL_done (by kernel_rfl) ?_ _
                go_wp2_with fail
                refine bodyPost_ret (results_ctY rfl _ _ (w.heap.size + 2) #[.slice A9 n9 c9, .slice B9 m9 k9, .int .i64 d'.ar, .bool d'.go, .int .i64 d'.op] rfl (run_loadVar_row _ (w.heap.size + 2) 35 35 _ (0, 0) _ HG.out.2.2.2.2.1 Try.underlying35 rfl (by kernel_rfl))) rfl ?_
                exact ⟨_, _, _, _, _, _, rfl, HG.out.1, HG.out.2.1, HG.out.2.2.1, HG.out.2.2.2.1⟩
              exact AllReadyL.nil
            exact AllReadyL.nil
          exact AllReadyL.nil
        exact AllReadyL.nil
      exact AllReadyL.nil
    exact AllReadyL.nil
  exact AllReadyL.nil
end Go.Proofs.Ytiagbadnmkeokaa

namespace Go.Proofs.Ytiagbadnmkeokaa
open Go.RowKit Vi

set_option maxRecDepth 100000 in
set_option maxHeartbeats 4000000 in
theorem rsame_yes (A : Option Addr) (n c : Nat) (A2 : Option Addr) (m c2 : Nat) (B : Option Addr) (k : Nat) (B2 : Option Addr) (k2 : Nat) (SS : List ByteArray) (CC : List Wr) (w : World) (h1 : RdX stC 1 w A n SS) (h2 : RdX wrC 2 w A2 m CC) (h3 : RdX stC 1 w B n SS) (h4 : RdX wrC 2 w B2 m CC) (hn : n ≤ 100000) (hm : m ≤ 100000) :
    Calls Try.prog 14 #[.agg #[.slice A n c, .slice A2 m c2], .agg #[.slice B n k, .slice B2 m k2]] w fun e w' => e = .returned (.bool true) ∧ Below w.heap.size w w' := by
  have HB0 := Lib.hid (((Below.refl w.heap.size w).alloc (Nat.le_refl _) (.cells #[.slice A n c, .slice A2 m c2] 32 (0, 0))).alloc (by simp) (.cells #[.slice B n k, .slice B2 m k2] 32 (0, 0)))
  have HX := Lib.hid (blk_alloc (blk_new w (.cells #[.slice A n c, .slice A2 m c2] 32 (0, 0))) (.cells #[.slice B n k, .slice B2 m k2] 32 (0, 0)))
  have HY := Lib.hid (show ((w.alloc (.cells #[.slice A n c, .slice A2 m c2] 32 (0, 0))).alloc (.cells #[.slice B n k, .slice B2 m k2] 32 (0, 0))).heap[w.heap.size + 1]? = some (.cells #[.slice B n k, .slice B2 m k2] 32 (0, 0)) by have q := blk_new (w.alloc (.cells #[.slice A n c, .slice A2 m c2] 32 (0, 0))) (.cells #[.slice B n k, .slice B2 m k2] 32 (0, 0)); simpa using q)
  have H1 := Lib.hid h1
  have H2 := Lib.hid h2
  have H3 := Lib.hid h3
  have H4 := Lib.hid h4
  clear h1 h2 h3 h4
  obtain ⟨v, hv⟩ : ∃ v, v = (w.alloc (.cells #[.slice A n c, .slice A2 m c2] 32 (0, 0))).alloc (.cells #[.slice B n k, .slice B2 m k2] 32 (0, 0)) := ⟨_, rfl⟩
  have HV := Lib.hid hv
  rw [← hv] at HB0 HX HY
  clear hv
  go_enter Try.func14, Try.ntmps14
  go_upto_region 1 with (fail)
  rw [← HV.out]
  clear HV
  have a0 : v.cell? ⟨w.heap.size, 0, none⟩ = some (.slice A n c) := (cell_of_row _ _ 0 _ _ _ HX.out).trans rfl
  have a1 : v.cell? ⟨w.heap.size, 1, none⟩ = some (.slice A2 m c2) := (cell_of_row _ _ 1 _ _ _ HX.out).trans rfl
  have b0 : v.cell? ⟨w.heap.size + 1, 0, none⟩ = some (.slice B n k) := (cell_of_row _ _ 0 _ _ _ HY.out).trans rfl
  have b1 : v.cell? ⟨w.heap.size + 1, 1, none⟩ = some (.slice B2 m k2) := (cell_of_row _ _ 1 _ _ _ HY.out).trans rfl
  go_wp2_with fail
  go_loopw [5] (fun i wr => ∃ j : Nat, i = .int .i64 (j : Int) ∧ j ≤ n ∧ Below v.heap.size v wr) (fun i _ => n - (intOf i).toNat)
  case atStart => exact ⟨0, rfl, Nat.zero_le _, Below.refl _ _⟩
  case round =>
    obtain ⟨j, rfl, hj, hb⟩ := hrel
    have HB := Lib.hid hb
    clear hb a0 a1 b0 b1
    have HX1 := Lib.hid (blk_below HX.out HB.out)
    have HY1 := Lib.hid (blk_below HY.out HB.out)
    have HBw := Lib.hid (HB0.out.trans (HB.out.mono HB0.out.size))
    by_cases hlt : j < n
    · have hd1 : decide ((j : Int) < (n : Int)) = true := decide_eq_true (by omega)
      have hi0 : (0 : Int) ≤ (j : Int) := by omega
      have hs1 : IntKind.i64.wrap ((j : Int) + 1) = (j : Int) + 1 := IntWalk.i64_in _ (by omega)
      obtain ⟨ba, oa, hl1, rfl, hba, hca⟩ := (H1.out.below HBw.out).at hlt
      obtain ⟨bb, ob, hl2, rfl, hbb, hcb⟩ := (H3.out.below HBw.out).at hlt
      have c1 : wr.cell? ⟨ba, oa + j, none⟩ = some (.string SS[j]) := by have q := hca 0 (.string SS[j]) rfl; simpa using q
      have c2' : wr.cell? ⟨bb, ob + j, none⟩ = some (.string SS[j]) := by have q := hcb 0 (.string SS[j]) rfl; simpa using q
      generalize SS[j] = s at c1 c2'
      clear hca hcb hl1 hl2 hba hbb
      have x0 := (cell_of_row _ _ 0 _ _ _ HX1.out).trans (show _ = some (Value.slice (some ⟨ba, oa, none⟩) n c) from rfl)
      have y0 := (cell_of_row _ _ 0 _ _ _ HY1.out).trans (show _ = some (Value.slice (some ⟨bb, ob, none⟩) n k) from rfl)
      have r1 := fun d os => cell_regrown c1 d os
      have r2 := fun d os => cell_regrown c2' d os
      have r3 := fun d os => cell_regrown x0 d os
      have r4 := fun d os => cell_regrown y0 d os
      go_upto_region 6 with (fail)
      refine wp_region_quiet_below (by kernel_rfl) (by kernel_rfl) ?_
      repeat (any_goals (first | go_big_quiet_step (fail) | quiet_step (fail)))
      refine wpQuiet_nil ?_
      intro w2 hw2
      have hb2 := below_anyY hw2
      have HB2 := Lib.hid (HB.out.trans (hb2.mono HB.out.size))
      clear hw2 hb2 c1 c2' r1 r2 r3 r4 x0 y0
      go_wp2_with fail
      go_roundw
      case rel => exact ⟨j + 1, by go_num, by omega, HB2.out⟩
      case measure => simp [intOf] <;> omega
    · have hd1 : decide ((j : Int) < (n : Int)) = false := decide_eq_false (by omega)
      have x0 := (cell_of_row _ _ 0 _ _ _ HX1.out).trans (show _ = some (Value.slice A n c) from rfl)
      go_wp2_with fail
      clear x0
      go_loopw [6] (fun i wr => ∃ j : Nat, i = .int .i64 (j : Int) ∧ j ≤ m ∧ Below v.heap.size v wr) (fun i _ => m - (intOf i).toNat)
      case atStart => exact ⟨0, rfl, Nat.zero_le _, HB.out⟩
      case round =>
        obtain ⟨j, rfl, hj, hb⟩ := hrel
        clear HB HX1 HY1 HBw
        have HB := Lib.hid hb
        clear hb
        have HX1 := Lib.hid (blk_below HX.out HB.out)
        have HY1 := Lib.hid (blk_below HY.out HB.out)
        have HBw := Lib.hid (HB0.out.trans (HB.out.mono HB0.out.size))
        by_cases hlt : j < m
        · have hd1 : decide ((j : Int) < (m : Int)) = true := decide_eq_true (by omega)
          have hi0 : (0 : Int) ≤ (j : Int) := by omega
          have hs1 : IntKind.i64.wrap ((j : Int) + 1) = (j : Int) + 1 := IntWalk.i64_in _ (by omega)
          obtain ⟨ba, oa, hl1, rfl, hba, hca⟩ := (H2.out.below HBw.out).at hlt
          obtain ⟨bb, ob, hl2, rfl, hbb, hcb⟩ := (H4.out.below HBw.out).at hlt
          have c1 : wr.cell? ⟨ba, oa + j * 2, none⟩ = some (.int .i64 CC[j].1) := by have q := hca 0 (.int .i64 CC[j].1) rfl; simpa using q
          have c2' : wr.cell? ⟨bb, ob + j * 2, none⟩ = some (.int .i64 CC[j].1) := by have q := hcb 0 (.int .i64 CC[j].1) rfl; simpa using q
          have e1 := hca 1 (.string CC[j].2) rfl
          have e2 := hcb 1 (.string CC[j].2) rfl
          generalize CC[j].1 = i0 at c1 c2'
          generalize CC[j].2 = s at e1 e2
          clear hca hcb hl1 hl2 hba hbb
          have x0 := (cell_of_row _ _ 1 _ _ _ HX1.out).trans (show _ = some (Value.slice (some ⟨ba, oa, none⟩) m c2) from rfl)
          have y0 := (cell_of_row _ _ 1 _ _ _ HY1.out).trans (show _ = some (Value.slice (some ⟨bb, ob, none⟩) m k2) from rfl)
          have r1 := fun d os => cell_regrown c1 d os
          have r2 := fun d os => cell_regrown c2' d os
          have r3 := fun d os => cell_regrown x0 d os
          have r4 := fun d os => cell_regrown y0 d os
          have r5 := fun d os => cell_regrown e1 d os
          have r6 := fun d os => cell_regrown e2 d os
          go_upto_region 11 with (fail)
          refine wp_region_quiet_below (by kernel_rfl) (by kernel_rfl) ?_
          repeat (any_goals (first | go_big_quiet_step (fail) | quiet_step (fail)))
          refine wpQuiet_nil ?_
          intro w2 hw2
          have hb2 := below_anyY hw2
          have HB2 := Lib.hid (HB.out.trans (hb2.mono HB.out.size))
          clear hw2 hb2 c1 c2' e1 e2 r1 r2 r3 r4 r5 r6 x0 y0
          go_wp2_with fail
          go_roundw
          case rel => exact ⟨j + 1, by go_num, by omega, HB2.out⟩
          case measure => simp [intOf] <;> omega
        · have hd1 : decide ((j : Int) < (m : Int)) = false := decide_eq_false (by omega)
          have x0 := (cell_of_row _ _ 1 _ _ _ HX1.out).trans (show _ = some (Value.slice A2 m c2) from rfl)
          go_wp2_with fail
          go_ret
          exact ⟨rfl, HBw.out⟩
end Go.Proofs.Ytiagbadnmkeokaa

namespace Go.Proofs.Ytiagbadnmkeokaa
open Go.RowKit Vi

set_option maxRecDepth 100000 in
set_option maxHeartbeats 4000000 in
theorem does8 (n0 : Nat) (w0 : World) (D : Nat) (d : Ds) (k : Nat) (A : Option Addr) (n c : Nat) (A2 : Option Addr) (n2 c2 : Nat) (a : Ac) (w : World) (h : DW n0 w0 D d w) (o : DsOk k d) (hk : k ≤ 1000) (h1 : RdA D stC 1 w A n d.S) (h2 : RdA D wrC 2 w A2 n2 d.C) (hkd : ¬ (1 ≤ a.kd ∧ a.kd ≤ 7)) :
    Calls Try.prog 13 #[.pointer (some ⟨D, 0, none⟩), rdv A n c A2 n2 c2 d.ar d.go d.op, acV a] w (DoesP n0 w0 D (d) w) := by
  have HSZ := Lib.hid (fun (W : World) (q : DW n0 w0 D d W) => dseize_any D d.S d.C d.go d.op d.ar W q.dk (by have := o.s2; omega) (by have := o.c; omega))
  have HSM := Lib.hid (And.intro (show n ≤ 100000 by have := o.s2; have := h1.1.1; omega) (show n2 ≤ 100000 by have := o.c; have := h2.1.1; omega))
  have HL1 := Lib.hid h1.1.1
  have HL2 := Lib.hid h2.1.1
  obtain ⟨kd, at0, nn, t, rw1, ka, kn, kc, ks⟩ := a
  have hkd : ¬ (1 ≤ kd ∧ kd ≤ 7) := hkd
  have e1 : (kd == 1) = false := beq_eq_false_iff_ne.2 (fun e => hkd (by omega))
  have g1 : decide (kd = 1) = false := decide_eq_false (fun e => hkd (by omega))
  have e2 : (kd == 2) = false := beq_eq_false_iff_ne.2 (fun e => hkd (by omega))
  have g2 : decide (kd = 2) = false := decide_eq_false (fun e => hkd (by omega))
  have e3 : (kd == 3) = false := beq_eq_false_iff_ne.2 (fun e => hkd (by omega))
  have g3 : decide (kd = 3) = false := decide_eq_false (fun e => hkd (by omega))
  have e4 : (kd == 4) = false := beq_eq_false_iff_ne.2 (fun e => hkd (by omega))
  have g4 : decide (kd = 4) = false := decide_eq_false (fun e => hkd (by omega))
  have e5 : (kd == 5) = false := beq_eq_false_iff_ne.2 (fun e => hkd (by omega))
  have g5 : decide (kd = 5) = false := decide_eq_false (fun e => hkd (by omega))
  have e6 : (kd == 6) = false := beq_eq_false_iff_ne.2 (fun e => hkd (by omega))
  have g6 : decide (kd = 6) = false := decide_eq_false (fun e => hkd (by omega))
  have e7 : (kd == 7) = false := beq_eq_false_iff_ne.2 (fun e => hkd (by omega))
  have g7 : decide (kd = 7) = false := decide_eq_false (fun e => hkd (by omega))
  clear hkd
  have HZ0 := Lib.hid (bz_start (a := ⟨kd, at0, nn, t, rw1, ka, kn, kc, ks⟩) (c := c) (c2 := c2) h h1 h2)
  obtain ⟨v, hv⟩ : ∃ v, v = (((w.alloc (.cells #[.slice A n c, .slice A2 n2 c2, .int .i64 d.ar, .bool d.go, .int .i64 d.op] 35 (0, 0))).alloc (.cells #[.int .i64 kd, .int .i64 at0, .int .i64 nn, .string t, .bool rw1, .slice ka kn kc] 39 (0, 0))).alloc (.cells #[.slice none 0 0, .slice none 0 0, .int .i64 0, .bool false, .int .i64 0] 35 (0, 0))) := ⟨_, rfl⟩
  have HV := Lib.hid hv
  have HZ : Hid (Bz n0 w0 w D w.heap.size d d A n c A2 n2 c2 ⟨kd, at0, nn, t, rw1, ka, kn, kc, ks⟩ v) := Lib.hid (by rw [hv]; exact HZ0.out)
  clear HZ0 hv h h1 h2
  go_enter Try.func13, Try.ntmps13
  go_upto_region 1 with (fail)
  rw [← HV.out]
  clear HV
  have hk0 : v.cell? ⟨w.heap.size + 1, 0, none⟩ = some (.int .i64 kd) := (cell_of_row _ _ 0 _ _ _ HZ.out.ab).trans rfl
  go_upto_region 3 with (fail)
  clear hk0 e1 e2 e3 e4 e5 e6 e7 g1 g2 g3 g4 g5 g6 g7
  have HZ := Lib.hid HZ.out.drew
  refine wp_region_L_drew (S := fun _ W => W.heap[w.heap.size]? = some (.cells (rdC A n c A2 n2 c2 d) 35 (0, 0))) (by kernel_rfl) HZ.out.rb (fun hS hC => ?_)
  generalize v.drew = U at *
  refine wpAnyL_take (i := 0) (oi := { dst := some 17, op := .move (.tmp 0), type := _, pos := _, after := _, guard := none }) (v := ?_) rfl (by kernel_rfl) (by kernel_rfl) (by kernel_rfl) (fun _ _ _ h => h) (fun _ _ => Iff.rfl) hC (Or.inl ⟨by rfl, ?_⟩) hS (fun hC hS => ?_)
  rotate_left
  · intro W9 hSw; skip; go_simp; try (with_reducible rfl)
  try simp only [Act.put, List.setIfInBounds_toArray, List.set_cons_zero, List.set_cons_succ]
  refine wpAnyL_take (i := 2) (oi := { dst := some 19, op := .fieldAddr 35 (.tmp 4) 0, type := _, pos := _, after := _, guard := none }) (v := ?_) rfl (by kernel_rfl) (by kernel_rfl) (by kernel_rfl) (fun _ _ _ h => h) (fun _ _ => Iff.rfl) hC (Or.inl ⟨by rfl, ?_⟩) hS (fun hC hS => ?_)
  rotate_left
  · intro W9 hSw; skip; go_simp; try (with_reducible rfl)
  try simp only [Act.put, List.setIfInBounds_toArray, List.set_cons_zero, List.set_cons_succ]
  refine wpAnyL_take (i := 3) (oi := { dst := some 20, op := .load 32 (.tmp 19), type := _, pos := _, after := _, guard := none }) (v := ?_) rfl (by kernel_rfl) (by kernel_rfl) (by kernel_rfl) (fun _ _ _ h => h) (fun _ _ => Iff.rfl) hC (Or.inl ⟨by rfl, ?_⟩) hS (fun hC hS => ?_)
  rotate_left
  · intro W9 hSw; have q0 := (cell_of_row _ _ 0 _ _ _ hSw.choose_spec.2.2).trans rfl; have q1 := (cell_of_row _ _ 1 _ _ _ hSw.choose_spec.2.2).trans rfl; go_simp; try (with_reducible rfl)
  try simp only [Act.put, List.setIfInBounds_toArray, List.set_cons_zero, List.set_cons_succ]
  refine wpAnyL_ready (rs := [1]) (by kernel_rfl) (by simp) hC ?_
  refine AllReadyL.cons (o := { dst := some 18, op := .call { callee := .value (.func 11), args := #[.tmp 17], argTypes := #[25] }, type := _, pos := _, after := _, guard := none }) rfl (fun K9 hK => ?_) ?_
  · skip
    go_simp
    refine (HSZ.out _ HZ.out.dw).mono ?_
    rintro e w4 ⟨A9, n9, c9, B9, m9, k9, rfl, hs4, hc4, hb4⟩
    have HZ4 := Lib.hid (HZ.out.kept hb4)
    have HR4 := Lib.hid (by obtain ⟨_, _, e, hr, _, _⟩ := hs4.rd stC_len; injection e with e1 e2 e3; rw [e1, e2]; exact hr : RdX stC 1 w4 A9 n9 d.S)
    have HR5 := Lib.hid (by obtain ⟨_, _, e, hr, _, _⟩ := hc4.rd wrC_len; injection e with e1 e2 e3; rw [e1, e2]; exact hr : RdX wrC 2 w4 B9 m9 d.C)
    clear hs4 hc4 hb4 HZ
    refine hK _ _ HZ4.out.rb (fun hC => ?_)
    clear hK K9
    try simp only [Act.put, List.setIfInBounds_toArray, List.set_cons_zero, List.set_cons_succ]
    refine wpAnyL_ready (rs := [4]) (by kernel_rfl) (by simp) hC ?_
    refine AllReadyL.cons (o := { dst := some 21, op := .call { callee := .value (.func 14), args := #[.tmp 18, .tmp 20], argTypes := #[32, 32] }, type := _, pos := _, after := _, guard := none }) rfl (fun K9 hK => ?_) ?_
    · skip
      go_simp
      obtain rfl : n = n9 := HL1.out.symm.trans HR4.out.1
      obtain rfl : n2 = m9 := HL2.out.symm.trans HR5.out.1
      refine (rsame_yes A9 n c9 B9 n2 k9 A c A2 c2 d.S d.C w4 HR4.out HR5.out HZ4.out.s.1 HZ4.out.c.1 HSM.out.1 HSM.out.2).mono ?_
      rintro e w5 ⟨rfl, hb5⟩
      have HZ5 := Lib.hid (HZ4.out.kept hb5)
      clear hb5 HZ4
      refine hK _ _ HZ5.out.rb (fun hC => ?_)
      clear hK K9
      try simp only [Act.put, List.setIfInBounds_toArray, List.set_cons_zero, List.set_cons_succ]
      refine wpAnyL_take (i := 5) (oi := { dst := some 22, op := .unOp .not 4 (.tmp 21), type := _, pos := _, after := _, guard := none }) (v := ?_) rfl (by kernel_rfl) (by kernel_rfl) (by kernel_rfl) (fun _ _ _ h => h) (fun _ _ => Iff.rfl) hC (Or.inl ⟨by rfl, ?_⟩) HZ5.out.rb (fun hC hS => ?_)
      rotate_left
      · intro W9 hSw; skip; go_simp; try (with_reducible rfl)
      try simp only [Act.put, List.setIfInBounds_toArray, List.set_cons_zero, List.set_cons_succ]
      refine wpAnyL_done (by kernel_rfl) ?_ _
      clear hS hC
      go_upto_region 27 with (fail)
      have HY0 := Lib.hid HZ5.out.drew
      refine wp_region_L_drew (S := fun _ W => W.heap[w.heap.size]? = some (.cells (rdC A n c A2 n2 c2 d) 35 (0, 0))) (by kernel_rfl) HY0.out.rb (fun hS hC => ?_)
      generalize w5.drew = v0 at *
      refine wpAnyL_take (i := 0) (oi := { dst := some 120, op := .load 35 (.tmp 4), type := _, pos := _, after := _, guard := none }) (v := ?_) rfl (by kernel_rfl) (by kernel_rfl) (by kernel_rfl) (fun _ _ _ h => h) (fun _ _ => Iff.rfl) hC (Or.inl ⟨by rfl, ?_⟩) hS (fun hC hS => ?_)
      rotate_left
      · intro W9 hSw; have q0 := (cell_of_row _ _ 0 _ _ _ hSw.choose_spec.2.2).trans rfl; have q1 := (cell_of_row _ _ 1 _ _ _ hSw.choose_spec.2.2).trans rfl; have q2 := (cell_of_row _ _ 2 _ _ _ hSw.choose_spec.2.2).trans rfl; have q3 := (cell_of_row _ _ 3 _ _ _ hSw.choose_spec.2.2).trans rfl; have q4 := (cell_of_row _ _ 4 _ _ _ hSw.choose_spec.2.2).trans rfl; go_simp; try (with_reducible rfl)
      try simp only [Act.put, List.setIfInBounds_toArray, List.set_cons_zero, List.set_cons_succ]
      refine wpAnyL_take (i := 1) (oi := { dst := some 121, op := .move (.tmp 8), type := _, pos := _, after := _, guard := none }) (v := ?_) rfl (by kernel_rfl) (by kernel_rfl) (by kernel_rfl) (fun _ _ _ h => h) (fun _ _ => Iff.rfl) hC (Or.inl ⟨by rfl, ?_⟩) hS (fun hC hS => ?_)
      rotate_left
      · intro W9 hSw; skip; go_simp; try (with_reducible rfl)
      try simp only [Act.put, List.setIfInBounds_toArray, List.set_cons_zero, List.set_cons_succ]
      refine wpAnyL_take (i := 2) (oi := { dst := some 122, op := .move (.tmp 9), type := _, pos := _, after := _, guard := none }) (v := ?_) rfl (by kernel_rfl) (by kernel_rfl) (by kernel_rfl) (fun _ _ _ h => h) (fun _ _ => Iff.rfl) hC (Or.inl ⟨by rfl, ?_⟩) hS (fun hC hS => ?_)
      rotate_left
      · intro W9 hSw; skip; go_simp; try (with_reducible rfl)
      try simp only [Act.put, List.setIfInBounds_toArray, List.set_cons_zero, List.set_cons_succ]
      refine wpAnyL_take (i := 3) (oi := { dst := some 123, op := .binOp .eql 3 (.tmp 121) (.tmp 122) 3, type := _, pos := _, after := _, guard := none }) (v := ?_) rfl (by kernel_rfl) (by kernel_rfl) (by kernel_rfl) (fun _ _ _ h => h) (fun _ _ => Iff.rfl) hC (Or.inl ⟨by rfl, ?_⟩) hS (fun hC hS => ?_)
      rotate_left
      · intro W9 hSw; skip; go_simp; try (with_reducible rfl)
      try simp only [Act.put, List.setIfInBounds_toArray, List.set_cons_zero, List.set_cons_succ]
      refine wpAnyL_take (i := 4) (oi := { dst := some 124, op := .move (.tmp 123), type := _, pos := _, after := _, guard := none }) (v := ?_) rfl (by kernel_rfl) (by kernel_rfl) (by kernel_rfl) (fun _ _ _ h => h) (fun _ _ => Iff.rfl) hC (Or.inl ⟨by rfl, ?_⟩) hS (fun hC hS => ?_)
      rotate_left
      · intro W9 hSw; skip; go_simp; try (with_reducible rfl)
      try simp only [Act.put, List.setIfInBounds_toArray, List.set_cons_zero, List.set_cons_succ]
      refine wpAnyL_take (i := 5) (oi := { dst := some 125, op := .move (.tmp 0), type := _, pos := _, after := _, guard := some (4, true) }) (v := ?_) rfl (by kernel_rfl) (by kernel_rfl) (by kernel_rfl) (fun _ _ _ h => h) (fun _ _ => Iff.rfl) hC (Or.inl ⟨by rfl, ?_⟩) hS (fun hC hS => ?_)
      rotate_left
      · intro W9 hSw; skip; go_simp; try (with_reducible rfl)
      try simp only [Act.put, List.setIfInBounds_toArray, List.set_cons_zero, List.set_cons_succ]
      refine wpAnyL_take (i := 7) (oi := { dst := some 127, op := .fieldAddr 35 (.tmp 4) 2, type := _, pos := _, after := _, guard := some (4, true) }) (v := ?_) rfl (by kernel_rfl) (by kernel_rfl) (by kernel_rfl) (fun _ _ _ h => h) (fun _ _ => Iff.rfl) hC (Or.inl ⟨by rfl, ?_⟩) hS (fun hC hS => ?_)
      rotate_left
      · intro W9 hSw; skip; go_simp; try (with_reducible rfl)
      try simp only [Act.put, List.setIfInBounds_toArray, List.set_cons_zero, List.set_cons_succ]
      refine wpAnyL_take (i := 8) (oi := { dst := some 128, op := .load 4 (.tmp 127), type := _, pos := _, after := _, guard := some (4, true) }) (v := ?_) rfl (by kernel_rfl) (by kernel_rfl) (by kernel_rfl) (fun _ _ _ h => h) (fun _ _ => Iff.rfl) hC (Or.inl ⟨by rfl, ?_⟩) hS (fun hC hS => ?_)
      rotate_left
      · intro W9 hSw; have q3 := (cell_of_row _ _ 3 _ _ _ hSw.choose_spec.2.2).trans rfl; go_simp; try (with_reducible rfl)
      try simp only [Act.put, List.setIfInBounds_toArray, List.set_cons_zero, List.set_cons_succ]
      refine wpAnyL_ready (rs := [6]) (by kernel_rfl) (by simp) hC ?_
      refine AllReadyL.cons (o := { dst := some 126, op := .call { callee := .value (.func 23), args := #[.tmp 125], argTypes := #[25] }, type := _, pos := _, after := _, guard := some (4, true) }) rfl (fun K9 hK => ?_) ?_
      · skip
        go_simp
        refine ((dk_tail HY0.out.dw.dk HY0.out.s.1.1).1 _ (Below.refl _ _)).mono ?_
        rintro e v1 ⟨rfl, hb8⟩
        have HY1 := Lib.hid (HY0.out.kept hb8)
        clear hb8 HY0
        refine hK _ _ HY1.out.rb (fun hC => ?_)
        clear hK K9
        try simp only [Act.put, List.setIfInBounds_toArray, List.set_cons_zero, List.set_cons_succ]
        refine wpAnyL_take (i := 9) (oi := { dst := some 129, op := .binOp .eql 4 (.tmp 126) (.tmp 128) 4, type := _, pos := _, after := _, guard := some (4, true) }) (v := ?_) rfl (by kernel_rfl) (by kernel_rfl) (by kernel_rfl) (fun _ _ _ h => h) (fun _ _ => Iff.rfl) hC (Or.inl ⟨by rfl, ?_⟩) HY1.out.rb (fun hC hS => ?_)
        rotate_left
        · intro W9 hSw; skip; go_simp; try (with_reducible rfl)
        try simp only [Act.put, List.setIfInBounds_toArray, List.set_cons_zero, List.set_cons_succ]
        refine wpAnyL_take (i := 10) (oi := { dst := some 130, op := .pick (.tmp 124) (.tmp 129) (.const (.bool false)), type := _, pos := _, after := _, guard := none }) (v := ?_) rfl (by kernel_rfl) (by kernel_rfl) (by kernel_rfl) (fun _ _ _ h => h) (fun _ _ => Iff.rfl) hC (Or.inl ⟨by rfl, ?_⟩) HY1.out.rb (fun hC hS => ?_)
        rotate_left
        · intro W9 hSw; skip; go_simp; try (with_reducible rfl)
        try simp only [Act.put, List.setIfInBounds_toArray, List.set_cons_zero, List.set_cons_succ]
        refine wpAnyL_take (i := 11) (oi := { dst := some 131, op := .move (.tmp 130), type := _, pos := _, after := _, guard := none }) (v := ?_) rfl (by kernel_rfl) (by kernel_rfl) (by kernel_rfl) (fun _ _ _ h => h) (fun _ _ => Iff.rfl) hC (Or.inl ⟨by rfl, ?_⟩) HY1.out.rb (fun hC hS => ?_)
        rotate_left
        · intro W9 hSw; skip; go_simp; try (with_reducible rfl)
        try simp only [Act.put, List.setIfInBounds_toArray, List.set_cons_zero, List.set_cons_succ]
        refine wpAnyL_take (i := 12) (oi := { dst := some 132, op := .move (.tmp 0), type := _, pos := _, after := _, guard := some (11, true) }) (v := ?_) rfl (by kernel_rfl) (by kernel_rfl) (by kernel_rfl) (fun _ _ _ h => h) (fun _ _ => Iff.rfl) hC (Or.inl ⟨by rfl, ?_⟩) HY1.out.rb (fun hC hS => ?_)
        rotate_left
        · intro W9 hSw; skip; go_simp; try (with_reducible rfl)
        try simp only [Act.put, List.setIfInBounds_toArray, List.set_cons_zero, List.set_cons_succ]
        refine wpAnyL_take (i := 14) (oi := { dst := some 134, op := .fieldAddr 35 (.tmp 4) 3, type := _, pos := _, after := _, guard := some (11, true) }) (v := ?_) rfl (by kernel_rfl) (by kernel_rfl) (by kernel_rfl) (fun _ _ _ h => h) (fun _ _ => Iff.rfl) hC (Or.inl ⟨by rfl, ?_⟩) HY1.out.rb (fun hC hS => ?_)
        rotate_left
        · intro W9 hSw; skip; go_simp; try (with_reducible rfl)
        try simp only [Act.put, List.setIfInBounds_toArray, List.set_cons_zero, List.set_cons_succ]
        refine wpAnyL_take (i := 15) (oi := { dst := some 135, op := .load 3 (.tmp 134), type := _, pos := _, after := _, guard := some (11, true) }) (v := ?_) rfl (by kernel_rfl) (by kernel_rfl) (by kernel_rfl) (fun _ _ _ h => h) (fun _ _ => Iff.rfl) hC (Or.inl ⟨by rfl, ?_⟩) HY1.out.rb (fun hC hS => ?_)
        rotate_left
        · intro W9 hSw; have q4 := (cell_of_row _ _ 4 _ _ _ hSw.choose_spec.2.2).trans rfl; go_simp; try (with_reducible rfl)
        try simp only [Act.put, List.setIfInBounds_toArray, List.set_cons_zero, List.set_cons_succ]
        refine wpAnyL_ready (rs := [13]) (by kernel_rfl) (by simp) hC ?_
        refine AllReadyL.cons (o := { dst := some 133, op := .call { callee := .value (.func 28), args := #[.tmp 132], argTypes := #[25] }, type := _, pos := _, after := _, guard := some (11, true) }) rfl (fun K9 hK => ?_) ?_
        · skip
          go_simp
          refine ((dk_tail HY1.out.dw.dk HY1.out.s.1.1).2.1 _ (Below.refl _ _)).mono ?_
          rintro e v2 ⟨rfl, hb8⟩
          have HY2 := Lib.hid (HY1.out.kept hb8)
          clear hb8 HY1
          refine hK _ _ HY2.out.rb (fun hC => ?_)
          clear hK K9
          try simp only [Act.put, List.setIfInBounds_toArray, List.set_cons_zero, List.set_cons_succ]
          refine wpAnyL_take (i := 16) (oi := { dst := some 136, op := .binOp .eql 3 (.tmp 133) (.tmp 135) 3, type := _, pos := _, after := _, guard := some (11, true) }) (v := ?_) rfl (by kernel_rfl) (by kernel_rfl) (by kernel_rfl) (fun _ _ _ h => h) (fun _ _ => Iff.rfl) hC (Or.inl ⟨by rfl, ?_⟩) HY2.out.rb (fun hC hS => ?_)
          rotate_left
          · intro W9 hSw; skip; go_simp; try (with_reducible rfl)
          try simp only [Act.put, List.setIfInBounds_toArray, List.set_cons_zero, List.set_cons_succ]
          refine wpAnyL_take (i := 17) (oi := { dst := some 137, op := .pick (.tmp 131) (.tmp 136) (.const (.bool false)), type := _, pos := _, after := _, guard := none }) (v := ?_) rfl (by kernel_rfl) (by kernel_rfl) (by kernel_rfl) (fun _ _ _ h => h) (fun _ _ => Iff.rfl) hC (Or.inl ⟨by rfl, ?_⟩) HY2.out.rb (fun hC hS => ?_)
          rotate_left
          · intro W9 hSw; skip; go_simp; try (with_reducible rfl)
          try simp only [Act.put, List.setIfInBounds_toArray, List.set_cons_zero, List.set_cons_succ]
          refine wpAnyL_take (i := 18) (oi := { dst := some 138, op := .move (.tmp 137), type := _, pos := _, after := _, guard := none }) (v := ?_) rfl (by kernel_rfl) (by kernel_rfl) (by kernel_rfl) (fun _ _ _ h => h) (fun _ _ => Iff.rfl) hC (Or.inl ⟨by rfl, ?_⟩) HY2.out.rb (fun hC hS => ?_)
          rotate_left
          · intro W9 hSw; skip; go_simp; try (with_reducible rfl)
          try simp only [Act.put, List.setIfInBounds_toArray, List.set_cons_zero, List.set_cons_succ]
          refine wpAnyL_take (i := 19) (oi := { dst := some 139, op := .move (.tmp 0), type := _, pos := _, after := _, guard := some (18, true) }) (v := ?_) rfl (by kernel_rfl) (by kernel_rfl) (by kernel_rfl) (fun _ _ _ h => h) (fun _ _ => Iff.rfl) hC (Or.inl ⟨by rfl, ?_⟩) HY2.out.rb (fun hC hS => ?_)
          rotate_left
          · intro W9 hSw; skip; go_simp; try (with_reducible rfl)
          try simp only [Act.put, List.setIfInBounds_toArray, List.set_cons_zero, List.set_cons_succ]
          refine wpAnyL_take (i := 21) (oi := { dst := some 141, op := .fieldAddr 35 (.tmp 4) 0, type := _, pos := _, after := _, guard := some (18, true) }) (v := ?_) rfl (by kernel_rfl) (by kernel_rfl) (by kernel_rfl) (fun _ _ _ h => h) (fun _ _ => Iff.rfl) hC (Or.inl ⟨by rfl, ?_⟩) HY2.out.rb (fun hC hS => ?_)
          rotate_left
          · intro W9 hSw; skip; go_simp; try (with_reducible rfl)
          try simp only [Act.put, List.setIfInBounds_toArray, List.set_cons_zero, List.set_cons_succ]
          refine wpAnyL_take (i := 22) (oi := { dst := some 142, op := .fieldAddr 32 (.tmp 141) 0, type := _, pos := _, after := _, guard := some (18, true) }) (v := ?_) rfl (by kernel_rfl) (by kernel_rfl) (by kernel_rfl) (fun _ _ _ h => h) (fun _ _ => Iff.rfl) hC (Or.inl ⟨by rfl, ?_⟩) HY2.out.rb (fun hC hS => ?_)
          rotate_left
          · intro W9 hSw; skip; go_simp; try (with_reducible rfl)
          try simp only [Act.put, List.setIfInBounds_toArray, List.set_cons_zero, List.set_cons_succ]
          refine wpAnyL_take (i := 23) (oi := { dst := some 143, op := .load 29 (.tmp 142), type := _, pos := _, after := _, guard := some (18, true) }) (v := ?_) rfl (by kernel_rfl) (by kernel_rfl) (by kernel_rfl) (fun _ _ _ h => h) (fun _ _ => Iff.rfl) hC (Or.inl ⟨by rfl, ?_⟩) HY2.out.rb (fun hC hS => ?_)
          rotate_left
          · intro W9 hSw; have q0 := (cell_of_row _ _ 0 _ _ _ hSw.choose_spec.2.2).trans rfl; go_simp; try (with_reducible rfl)
          try simp only [Act.put, List.setIfInBounds_toArray, List.set_cons_zero, List.set_cons_succ]
          refine wpAnyL_take (i := 24) (oi := { dst := some 144, op := .call { callee := .builtin .len, args := #[.tmp 143], argTypes := #[29] }, type := _, pos := _, after := _, guard := some (18, true) }) (v := ?_) rfl (by kernel_rfl) (by kernel_rfl) (by kernel_rfl) (fun _ _ _ h => h) (fun _ _ => Iff.rfl) hC (Or.inl ⟨by rfl, ?_⟩) HY2.out.rb (fun hC hS => ?_)
          rotate_left
          · intro W9 hSw; skip; go_simp; try (with_reducible rfl)
          try simp only [Act.put, List.setIfInBounds_toArray, List.set_cons_zero, List.set_cons_succ]
          refine wpAnyL_ready (rs := [20]) (by kernel_rfl) (by simp) hC ?_
          refine AllReadyL.cons (o := { dst := some 140, op := .call { callee := .value (.func 27), args := #[.tmp 139], argTypes := #[25] }, type := _, pos := _, after := _, guard := some (18, true) }) rfl (fun K9 hK => ?_) ?_
          · skip
            go_simp
            refine ((dk_tail HY2.out.dw.dk HY2.out.s.1.1).2.2 _ (Below.refl _ _)).mono ?_
            rintro e v3 ⟨rfl, hb8⟩
            have HY3 := Lib.hid (HY2.out.kept hb8)
            clear hb8 HY2
            refine hK _ _ HY3.out.rb (fun hC => ?_)
            clear hK K9
            try simp only [Act.put, List.setIfInBounds_toArray, List.set_cons_zero, List.set_cons_succ]
            refine wpAnyL_take (i := 25) (oi := { dst := some 145, op := .binOp .eql 3 (.tmp 140) (.tmp 144) 3, type := _, pos := _, after := _, guard := some (18, true) }) (v := ?_) rfl (by kernel_rfl) (by kernel_rfl) (by kernel_rfl) (fun _ _ _ h => h) (fun _ _ => Iff.rfl) hC (Or.inl ⟨by rfl, ?_⟩) HY3.out.rb (fun hC hS => ?_)
            rotate_left
            · intro W9 hSw; skip; go_simp; try (with_reducible rfl)
            try simp only [Act.put, List.setIfInBounds_toArray, List.set_cons_zero, List.set_cons_succ]
            refine wpAnyL_take (i := 26) (oi := { dst := some 146, op := .pick (.tmp 138) (.tmp 145) (.const (.bool false)), type := _, pos := _, after := _, guard := none }) (v := ?_) rfl (by kernel_rfl) (by kernel_rfl) (by kernel_rfl) (fun _ _ _ h => h) (fun _ _ => Iff.rfl) hC (Or.inl ⟨by rfl, ?_⟩) HY3.out.rb (fun hC hS => ?_)
            rotate_left
            · intro W9 hSw; skip; go_simp; try (with_reducible rfl)
            try simp only [Act.put, List.setIfInBounds_toArray, List.set_cons_zero, List.set_cons_succ]
            refine wpAnyL_ready (rs := [27]) (by kernel_rfl) (by simp) hC ?_
            refine AllReadyL.cons (o := { dst := none, op := .store 35 (.tmp 6) (.tmp 120), type := _, pos := _, after := _, guard := none }) rfl (fun K9 hK => ?_) ?_
            · skip
              have y0 : v3.cell? ⟨w.heap.size + 2, 0, none⟩ = some (.slice none 0 0) := (cell_of_row _ _ 0 _ _ _ HY3.out.qb).trans rfl
              have y1 : v3.cell? ⟨w.heap.size + 2, 1, none⟩ = some (.slice none 0 0) := (cell_of_row _ _ 1 _ _ _ HY3.out.qb).trans rfl
              have y2 : v3.cell? ⟨w.heap.size + 2, 2, none⟩ = some (.int .i64 0) := (cell_of_row _ _ 2 _ _ _ HY3.out.qb).trans rfl
              have y3 : v3.cell? ⟨w.heap.size + 2, 3, none⟩ = some (.bool false) := (cell_of_row _ _ 3 _ _ _ HY3.out.qb).trans rfl
              have y4 : v3.cell? ⟨w.heap.size + 2, 4, none⟩ = some (.int .i64 0) := (cell_of_row _ _ 4 _ _ _ HY3.out.qb).trans rfl
              have f0 : v3.frozen? ⟨w.heap.size + 2, 0, none⟩ = false := frozen_of_row _ _ _ _ _ HY3.out.qb
              have f1 : v3.frozen? ⟨w.heap.size + 2, 1, none⟩ = false := frozen_of_row _ _ _ _ _ HY3.out.qb
              have f2 : v3.frozen? ⟨w.heap.size + 2, 2, none⟩ = false := frozen_of_row _ _ _ _ _ HY3.out.qb
              have f3 : v3.frozen? ⟨w.heap.size + 2, 3, none⟩ = false := frozen_of_row _ _ _ _ _ HY3.out.qb
              have f4 : v3.frozen? ⟨w.heap.size + 2, 4, none⟩ = false := frozen_of_row _ _ _ _ _ HY3.out.qb
              go_simp
              obtain ⟨v9, hv9⟩ : ∃ v9, v9 = (((((v3.setCell ⟨w.heap.size + 2, 0, none⟩ (.slice A n c)).setCell ⟨w.heap.size + 2, 1, none⟩ (.slice A2 n2 c2)).setCell ⟨w.heap.size + 2, 2, none⟩ (.int .i64 d.ar)).setCell ⟨w.heap.size + 2, 3, none⟩ (.bool d.go)).setCell ⟨w.heap.size + 2, 4, none⟩ (.int .i64 d.op)) := ⟨_, rfl⟩
              have HG := Lib.hid (HY3.out.done v9 hv9)
              rw [← hv9]
              clear y0 y1 y2 y3 y4 f0 f1 f2 f3 f4 hv9
              refine hK _ _ HG.out.2.2.2.2.2 (fun hC => ?_)
              clear hK K9
              try simp only [Act.put, List.setIfInBounds_toArray, List.set_cons_zero, List.set_cons_succ]
              refine wpAnyL_take (i := 28) (oi := { dst := some 7, op := .assign (.tmp 146), type := _, pos := _, after := _, guard := none }) (v := ?_) rfl (by kernel_rfl) (by kernel_rfl) (by kernel_rfl) (fun _ _ _ h => h) (fun _ _ => Iff.rfl) hC (Or.inl ⟨by rfl, ?_⟩) HG.out.2.2.2.2.2 (fun hC hS => ?_)
              rotate_left
              · intro W9 hSw; skip; go_simp; try (with_reducible rfl)
              try simp only [Act.put, List.setIfInBounds_toArray, List.set_cons_zero, List.set_cons_succ]
              refine wpAnyL_done (by kernel_rfl) ?_ _
              go_wp2_with fail
              refine bodyPost_ret (results_ctY rfl _ _ (w.heap.size + 2) #[.slice A n c, .slice A2 n2 c2, .int .i64 d.ar, .bool d.go, .int .i64 d.op] rfl (run_loadVar_row _ (w.heap.size + 2) 35 35 _ (0, 0) _ HG.out.2.2.2.2.1 Try.underlying35 rfl (by kernel_rfl))) rfl ?_
              exact ⟨_, _, _, _, _, _, rfl, HG.out.1, HG.out.2.1, HG.out.2.2.1, HG.out.2.2.2.1⟩
            exact AllReadyL.nil
          exact AllReadyL.nil
        exact AllReadyL.nil
      exact AllReadyL.nil
    exact AllReadyL.nil
  exact AllReadyL.nil
end Go.Proofs.Ytiagbadnmkeokaa
